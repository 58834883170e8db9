/- Whether all that is wanted of a side is right: the program's isRight, over whatever it is told to want; nothing that was in memory turns; no condition but that there are at most a million parts. Written by mkaud2.py. -/
import Derived.Test.YtnfkjdcnngoeiabGreatRows
import Derived.Recover
import Derived.Deep.RegionHeld3
import Derived.Deep.DeepCutAuto
import Derived.Deep.MidRow
import Derived.Deep.QuietTactic
import Derived.BigQuiet
import Derived.Test.YtnfkjdcnngoeiabGreatK01
import Derived.Test.YtnfkjdcnngoeiabGreatK02
import Derived.Test.YtnfkjdcnngoeiabGreatK03
import Derived.Test.YtnfkjdcnngoeiabGreatK05
import Derived.Test.YtnfkjdcnngoeiabGreatK10
import Derived.Test.YtnfkjdcnngoeiabGreatK11
import Derived.Test.YtnfkjdcnngoeiabGreatK12
import Derived.Test.YtnfkjdcnngoeiabGreatK14
import Derived.Test.YtnfkjdcnngoeiabGreatK58
import Derived.Test.YtnfkjdcnngoeiabGreatK59
import Derived.Test.YtnfkjdcnngoeiabGreatK60
import Derived.Test.YtnfkjdcnngoeiabGreatK62
import Derived.Test.YtnfkjdcnngoeiabGreatK64
import Derived.Test.YtnfkjdcnngoeiabGreatK78
import Derived.Test.YtnfkjdcnngoeiabGreatK79
namespace Go.Proofs.YtnfkjdcnngoeiabGreat
open Go.RowKit
set_option linter.unusedVariables false
set_option maxRecDepth 8000

/-- All of the first n. -/
def allB (bs : Nat → Bool) (n : Nat) : Bool := (List.range n).all bs
theorem allB_no {bs : Nat → Bool} {n j : Nat} (hj : j < n) (h : bs j = false) : allB bs n = false := by
  unfold allB; rw [List.all_eq_false]; exact ⟨j, by simpa using hj, by simp [h]⟩
theorem allB_yes {bs : Nat → Bool} {n : Nat} (h : ∀ j, j < n → bs j = true) : allB bs n = true := by
  unfold allB; rw [List.all_eq_true]; exact fun j hj => h j (by simpa using hj)
theorem iMustT (w : World) : Calls Tryz.prog 63 #[.bool true] w fun e w' => e = .returned (.tuple #[]) ∧ w' = w := iMust true w
theorem iMustF (w : World) : Calls Tryz.prog 63 #[.bool false] w fun e w' => e = .panicked [{ v := .iface 146 (.agg #[]), recovered := false }] ∧ w' = w := iMust false w
set_option maxHeartbeats 8000000 in
theorem iIsRight (x : DWorld) (A : Array Value) (s : Int) (wb wo n cap : Nat) (fs : Nat → Nat) (bs : Nat → Bool) (w : World) (B : Nat) (hr : shWorld.Rd w B x A.toList) (hB : B ≤ w.heap.size) (hT : totWorld x ≤ 1048576) (hwb : wb < w.heap.size) (hn : n ≤ 1000)
    (hc : ∀ k, k < n → w.cell? ⟨wb, wo + k, none⟩ = some (.func (.func (fs k)) #[] #[]))
    (hfn : ∀ k, k < n → ∀ (args : Array Value) (W : World), Sem.run Tryz.prog (callFunc (fs k) args) W = .ok (.enter (fs k) args) W)
    (hf : ∀ k k' : Nat, k + k' = 1 → s = (k : Int) → ∀ j, j < n → ∀ (W : World) (V : Array Value), Below w.heap.size w W → (∃ C O gu gc, VwA W B (x.cn k) (x.cn k') (x.gt k) (x.en k) V C O gu gc) → Calls Tryz.prog (fs j) #[.agg V] W fun e w' => e = wantE (bs j) ∧ Below W.heap.size W w') :
    Calls Tryz.prog 52 #[.agg A, .int .i64 s, .slice (some ⟨wb, wo, none⟩) n cap] w fun e w' => e = .returned (.bool (decide (worldF x = 0) && inD s 0 1 && allB bs n)) ∧ Below w.heap.size w w' := by
  obtain ⟨R, hR⟩ : ∃ R, R = (decide (worldF x = 0) && inD s 0 1 && allB bs n) := ⟨_, rfl⟩
  rw [← hR]
  have HR : Hid _ := hR
  have HI : Hid ((Tryz.prog.info? 37).map (·.size) = some A.toList.length) := by show _ = _; rw [Array.length_toList, rd_size hr]; exact (by kernel_rfl : (Tryz.prog.info? 37).map (·.size) = some 6)
  have HWF : Hid (∀ W, Below w.heap.size w W → Calls Tryz.prog 15 #[.agg A] W fun e w' => e = .returned (.int .i64 (worldF x)) ∧ Below W.heap.size W w') := fun W hW => iWorldFault x A W B (Sh.Rd.below hr hB hW) (Nat.le_trans hB hW.size) hT
  have HVW : Hid (worldF x = 0 → ∀ k k' : Nat, k + k' = 1 → ∀ W, Below w.heap.size w W → ∃ V : Array Value, (∃ C O gu gc, VwA W B (x.cn k) (x.cn k') (x.gt k) (x.en k) V C O gu gc) ∧ Calls Tryz.prog 78 #[.agg A, .int .i64 k] W fun r w' => r = .returned (.agg V) ∧ Below W.heap.size W w') := fun h0 k k' h1 W hW => iViewOf x A k k' W B (Sh.Rd.below hr hB hW) (Nat.le_trans hB hW.size) h0 hT h1
  have HFF : Hid _ := hf
  have HCC : Hid (∀ W, Below w.heap.size w W → ∀ k, k < n → W.cell? ⟨wb, wo + k, none⟩ = some (.func (.func (fs k)) #[] #[])) := fun W hW k hk => (hW.cell (p := ⟨wb, wo + k, none⟩) hwb).trans (hc k hk)
  have HFN : Hid _ := hfn
  have HBW : Hid (B ≤ w.heap.size) := hB
  have hmf : ∀ (fn : Fn) (first cap : Array Value) (w : World), (Instr.makeFunc fn first cap).run Tryz.prog w = .ok (.func fn first cap) w := fun _ _ _ _ => rfl
  clear hR hf hc hr hB hT hwb hfn
  have HWA : Hid (Below w.heap.size w ((w.alloc (.cells A 37)).alloc (.cells #[.bool false] 4)) ∧ ((w.alloc (.cells A 37)).alloc (.cells #[.bool false] 4)).heap.size = w.heap.size + 2 ∧ (∀ o, ((w.alloc (.cells A 37)).alloc (.cells #[.bool false] 4)).cell? ⟨w.heap.size, o, none⟩ = A[o]?) ∧ (∀ o, ((w.alloc (.cells A 37)).alloc (.cells #[.bool false] 4)).cell? ⟨w.heap.size + 1, o, none⟩ = (#[.bool false] : Array Value)[o]?) ∧ (∀ o, ((w.alloc (.cells A 37)).alloc (.cells #[.bool false] 4)).frozen? ⟨w.heap.size + 1, o, none⟩ = false)) := ⟨((Below.refl _ _).alloc (Nat.le_refl _) _).alloc (by simp) _, by simp, fun o => by simp [go_sem], fun o => by simp [go_sem], fun o => by simp [go_sem]⟩
  go_enter_defers Tryz.func52, Tryz.ntmps52
  go_upto_region 2 with fail
  generalize hWW : ((w.alloc (.cells A 37)).alloc (.cells #[.bool false] 4)) = W1 at HWA ⊢
  clear hWW
  obtain ⟨hb, hsz, kA, kR, fR⟩ := HWA.out
  clear HWA
  have HB : Hid (Below w.heap.size w W1) := hb
  have zA : w.heap.size < W1.heap.size := by omega
  have zR : w.heap.size + 1 < W1.heap.size := by omega
  clear hb hsz
  go_wp2_with (first | (refine wpList_load_mid rfl 37 _ rfl _ _ (by rfl) A.toList _ (bx_range kA) Tryz.underlying37 rfl HI.out ?_))
  refine (HWF.out _ HB.out).mono ?_
  rintro e W2 ⟨rfl, hb⟩
  replace kA := bx_below kA zA hb
  replace zA := Nat.lt_of_lt_of_le zA hb.size
  replace kR := bx_below kR zR hb
  replace fR := bxF fR hb zR
  replace zR := Nat.lt_of_lt_of_le zR hb.size
  replace HB : Hid (Below w.heap.size w W2) := HB.out.trans (hb.mono HB.out.size)
  clear hb
  clear HWF
  by_cases h0 : worldF x = 0
  case neg =>
    have h0' : (worldF x == 0) = false := by simp [h0]
    have hrf : R = false := by rw [HR.out, decide_eq_false h0, Bool.false_and, Bool.false_and]
    clear HR HVW HFF HCC h0
    generalize worldF x = F at *
    go_wp2_with (go_at_call 63; refine (iMustF _).mono ?_; rintro e w' ⟨rfl, hw⟩; subst w')
    subst hrf
    have hset : Hid (Below w.heap.size w (W2.setCell ⟨w.heap.size + 1, 0, none⟩ (.bool false))) := Below.setCell (p := ⟨w.heap.size + 1, 0, none⟩) HB.out (by dsimp only; omega) _
    have c0 : (W2.setCell ⟨w.heap.size + 1, 0, none⟩ (.bool false)).cell? ⟨w.heap.size + 1, 0, none⟩ = some (.bool false) := by rw [bx_put kR (k := 0) (by simp)]; rfl
    refine leaves_cons (f := 77) (args := #[.pointer (some ⟨w.heap.size + 1, 0, none⟩)]) (by simp) (by simp [go_sem]) ?_
    refine (iCatchP ⟨w.heap.size + 1, 0, none⟩ false 146 _ [] _ ((kR 0).trans rfl) (fR 0)).mono ?_
    rintro e u' w'' ⟨rfl, rfl, rfl⟩
    refine ⟨.bool false, by simp [results, Tryz.results52, go_sem, c0], rfl, hset.out⟩
  have h0' : (worldF x == 0) = true := by simp [h0]
  replace HVW : Hid _ := HVW.out h0
  have HR1 : Hid (R = (inD s 0 1 && allB bs n)) := by show _ = _; rw [HR.out, decide_eq_true h0, Bool.true_and]
  clear HR h0
  generalize worldF x = F at *
  have HIN : Hid (∀ W, Calls Tryz.prog 48 #[.int .i64 s, .int .i64 0, .int .i64 1] W fun e w' => e = .returned (.bool (inD s 0 1)) ∧ w' = W) := fun W => iInD _ _ _ _
  by_cases h1 : inD s 0 1 = true
  case neg =>
    have h1' : inD s 0 1 = false := by simpa using h1
    have hrf : R = false := by rw [HR1.out, h1', Bool.false_and]
    rw [h1'] at HIN
    clear HR1 HVW HFF HCC h1 h1'
    go_wp2_with (first | (go_at_call 63; refine (iMustT _).mono ?_; rintro e w' ⟨rfl, hw⟩; subst w') | (go_at_call 48; refine (HIN.out _).mono ?_; rintro e w' ⟨rfl, hw⟩; subst w'))
    go_wp2_with (go_at_call 63; refine (iMustF _).mono ?_; rintro e w' ⟨rfl, hw⟩; subst w')
    subst hrf
    have hset : Hid (Below w.heap.size w (W2.setCell ⟨w.heap.size + 1, 0, none⟩ (.bool false))) := Below.setCell (p := ⟨w.heap.size + 1, 0, none⟩) HB.out (by dsimp only; omega) _
    have c0 : (W2.setCell ⟨w.heap.size + 1, 0, none⟩ (.bool false)).cell? ⟨w.heap.size + 1, 0, none⟩ = some (.bool false) := by rw [bx_put kR (k := 0) (by simp)]; rfl
    refine leaves_cons (f := 77) (args := #[.pointer (some ⟨w.heap.size + 1, 0, none⟩)]) (by simp) (by simp [go_sem]) ?_
    refine (iCatchP ⟨w.heap.size + 1, 0, none⟩ false 146 _ [] _ ((kR 0).trans rfl) (fR 0)).mono ?_
    rintro e u' w'' ⟨rfl, rfl, rfl⟩
    refine ⟨.bool false, by simp [results, Tryz.results52, go_sem, c0], rfl, hset.out⟩
  have HR2 : Hid (R = allB bs n) := by show _ = _; rw [HR1.out, h1, Bool.true_and]
  rw [h1] at HIN
  obtain ⟨k, k', hkk, hs⟩ : ∃ k k' : Nat, k + k' = 1 ∧ s = (k : Int) := by
    obtain ⟨ha, hb⟩ : (0 : Int) ≤ s ∧ s ≤ 1 := by simpa [inD] using h1
    exact ⟨s.toNat, (1 - s).toNat, by omega, by omega⟩
  replace HFF : Hid _ := HFF.out k k' hkk hs
  replace HVW : Hid _ := HVW.out k k' hkk
  subst hs
  clear HR1 h1 hkk
  go_wp2_with (first | (go_at_call 63; refine (iMustT _).mono ?_; rintro e w' ⟨rfl, hw⟩; subst w') | (go_at_call 48; refine (HIN.out _).mono ?_; rintro e w' ⟨rfl, hw⟩; subst w') | (refine wpList_load_mid rfl 37 _ rfl _ _ (by rfl) A.toList _ (bx_range kA) Tryz.underlying37 rfl HI.out ?_))
  obtain ⟨V, HVA, hvc⟩ := HVW.out _ HB.out
  have hVz : V.size = 30 := by obtain ⟨C, O, gu, gc, hv⟩ := HVA; exact hv.size.1
  have HVZ : Hid (V.size = 30) := hVz
  have HONV : Hid (V.all (·.oneCell') = true) := by show _ = _; obtain ⟨C, O, gu, gc, hv⟩ := HVA; have e1 := rd_all hv.rc; have e2 := rd_all hv.ro; rw [hv.eV]; simp only [Array.all_append, e1, e2, Bool.true_and]; simp [Value.oneCell']
  have HVI : Hid ((Tryz.prog.info? 114).map (·.size) = some V.size) := by show _ = _; rw [hVz]; exact info_view
  have HVJ : Hid ((Tryz.prog.info? 114).map (·.size) = some V.toList.length) := by show _ = _; rw [Array.length_toList]; exact HVI.out
  have HVA2 : Hid (∀ W, Below W2.heap.size W2 W → ∃ C O gu gc, VwA W B (x.cn k) (x.cn k') (x.gt k) (x.en k) V C O gu gc) := fun W hW => by obtain ⟨C, O, gu, gc, hv⟩ := HVA; exact ⟨C, O, gu, gc, hv.below (Nat.le_trans HBW.out HB.out.size) hW⟩
  have HVC : Hid (Calls Tryz.prog 78 #[.agg A, .int .i64 k] W2 fun r w' => r = .returned (.agg V) ∧ Below W2.heap.size W2 w') := hvc
  have HBO : Hid (Below W2.heap.size W2 W2) := Below.refl _ _
  clear hVz hvc HVA HVW
  refine HVC.out.mono ?_
  rintro e W3 ⟨rfl, hb⟩
  clear HVC
  replace HBO : Hid (Below W2.heap.size W2 W3) := hb
  replace kA := bx_below kA zA hb
  replace zA := Nat.lt_of_lt_of_le zA hb.size
  replace kR := bx_below kR zR hb
  replace fR := bxF fR hb zR
  replace zR := Nat.lt_of_lt_of_le zR hb.size
  replace HB : Hid (Below w.heap.size w W3) := HB.out.trans (hb.mono HB.out.size)
  clear hb
  have HTH : Hid ((W3.alloc (.cells #[.int .i64 0, .int .i64 0, .int .i64 0, .bool false, .bool false, .slice none 0 0, .bool false, .int .i64 0, .bool false, .slice none 0 0, .slice none 0 0, .int .i64 0, .int .i64 0, .slice none 0 0, .int .i64 0, .int .i64 0, .int .i64 0, .bool false, .bool false, .slice none 0 0, .bool false, .int .i64 0, .bool false, .slice none 0 0, .slice none 0 0, .int .i64 0, .int .i64 0, .slice none 0 0, .slice none 0 0, .bool false] 114)).there W3.heap.size 0 V.size) := bx_there (bx_al _ _ _) (fx_al _ _ _) (by rw [HVZ.out]; rfl)
  have HWN : Hid (Below W3.heap.size W3 ((W3.alloc (.cells #[.int .i64 0, .int .i64 0, .int .i64 0, .bool false, .bool false, .slice none 0 0, .bool false, .int .i64 0, .bool false, .slice none 0 0, .slice none 0 0, .int .i64 0, .int .i64 0, .slice none 0 0, .int .i64 0, .int .i64 0, .int .i64 0, .bool false, .bool false, .slice none 0 0, .bool false, .int .i64 0, .bool false, .slice none 0 0, .slice none 0 0, .int .i64 0, .int .i64 0, .slice none 0 0, .slice none 0 0, .bool false] 114)).setCells W3.heap.size 0 V.toList) ∧ W3.heap.size < ((W3.alloc (.cells #[.int .i64 0, .int .i64 0, .int .i64 0, .bool false, .bool false, .slice none 0 0, .bool false, .int .i64 0, .bool false, .slice none 0 0, .slice none 0 0, .int .i64 0, .int .i64 0, .slice none 0 0, .int .i64 0, .int .i64 0, .int .i64 0, .bool false, .bool false, .slice none 0 0, .bool false, .int .i64 0, .bool false, .slice none 0 0, .slice none 0 0, .int .i64 0, .int .i64 0, .slice none 0 0, .slice none 0 0, .bool false] 114)).setCells W3.heap.size 0 V.toList).heap.size ∧ (∀ o, ((W3.alloc (.cells #[.int .i64 0, .int .i64 0, .int .i64 0, .bool false, .bool false, .slice none 0 0, .bool false, .int .i64 0, .bool false, .slice none 0 0, .slice none 0 0, .int .i64 0, .int .i64 0, .slice none 0 0, .int .i64 0, .int .i64 0, .int .i64 0, .bool false, .bool false, .slice none 0 0, .bool false, .int .i64 0, .bool false, .slice none 0 0, .slice none 0 0, .int .i64 0, .int .i64 0, .slice none 0 0, .slice none 0 0, .bool false] 114)).setCells W3.heap.size 0 V.toList).cell? ⟨W3.heap.size, o, none⟩ = V[o]?) ∧ (∀ o, ((W3.alloc (.cells #[.int .i64 0, .int .i64 0, .int .i64 0, .bool false, .bool false, .slice none 0 0, .bool false, .int .i64 0, .bool false, .slice none 0 0, .slice none 0 0, .int .i64 0, .int .i64 0, .slice none 0 0, .int .i64 0, .int .i64 0, .int .i64 0, .bool false, .bool false, .slice none 0 0, .bool false, .int .i64 0, .bool false, .slice none 0 0, .slice none 0 0, .int .i64 0, .int .i64 0, .slice none 0 0, .slice none 0 0, .bool false] 114)).setCells W3.heap.size 0 V.toList).frozen? ⟨W3.heap.size, o, none⟩ = false)) := ⟨setCells_below (Nat.le_refl _) _ _ _ _ ((Below.refl _ _).alloc (Nat.le_refl _) _), by rw [setCells_size]; simp, bx_setCells (bx_al W3 _ _) (by rw [HVZ.out]; rfl), fx_sets (fx_al _ _ _)⟩
  go_upto_region 5 with (first | (refine wpList_store_mid rfl 114 _ _ rfl _ _ V (by rfl) (by rfl) HTH.out HVI.out HONV.out ?_))
  generalize hWW : ((W3.alloc (.cells #[.int .i64 0, .int .i64 0, .int .i64 0, .bool false, .bool false, .slice none 0 0, .bool false, .int .i64 0, .bool false, .slice none 0 0, .slice none 0 0, .int .i64 0, .int .i64 0, .slice none 0 0, .int .i64 0, .int .i64 0, .int .i64 0, .bool false, .bool false, .slice none 0 0, .bool false, .int .i64 0, .bool false, .slice none 0 0, .slice none 0 0, .int .i64 0, .int .i64 0, .slice none 0 0, .slice none 0 0, .bool false] 114)).setCells W3.heap.size 0 V.toList) = W4 at HWN ⊢
  clear hWW HTH
  obtain ⟨hb, zV, kV, fV⟩ := HWN.out
  replace HBO : Hid (Below W2.heap.size W2 W4) := HBO.out.trans (hb.mono HBO.out.size)
  clear HWN
  obtain ⟨bV, hq⟩ : ∃ q, q = W3.heap.size := ⟨_, rfl⟩
  rw [← hq] at zV kV fV ⊢
  have lAV : w.heap.size < bV := by rw [hq]; exact zA
  have lRV : w.heap.size + 1 < bV := by rw [hq]; exact zR
  have lwV : w.heap.size ≤ bV := by rw [hq]; exact HB.out.size
  clear hq
  replace kA := bx_below kA zA hb
  replace zA := Nat.lt_of_lt_of_le zA hb.size
  replace kR := bx_below kR zR hb
  replace fR := bxF fR hb zR
  replace zR := Nat.lt_of_lt_of_le zR hb.size
  replace HB : Hid (Below w.heap.size w W4) := HB.out.trans (hb.mono HB.out.size)
  clear hb
  clear HONV HVI HVZ HIN fV lwV kA zA lAV
  have zV' : Hid (bV < W4.heap.size) := zV
  have zR' : Hid (w.heap.size + 1 < W4.heap.size) := zR
  clear zV zR
  have KV4 : Hid (∀ W, Below W4.heap.size W4 W → ∀ o, W.cell? ⟨bV, o, none⟩ = V[o]?) := fun W hW => bx_below kV zV'.out hW
  have KR4 : Hid (∀ W, Below W4.heap.size W4 W → (∀ o, W.cell? ⟨w.heap.size + 1, o, none⟩ = (#[.bool false] : Array Value)[o]?) ∧ (∀ o, W.frozen? ⟨w.heap.size + 1, o, none⟩ = false)) := fun W hW => ⟨bx_below kR zR'.out hW, bxF fR hW zR'.out⟩
  clear kV kR fR
  have HB4 : Hid (Below w.heap.size w W4) := HB
  clear HB
  go_wp2_with fail
  go_loopw [23] (fun i wr => ∃ j : Nat, j ≤ n ∧ i = .int .i64 j ∧ Hid (∀ q, q < j → bs q = true) ∧ Hid (Below W4.heap.size W4 wr)) (fun i _ => n - (intOf i).toNat)
  case atStart => exact ⟨0, Nat.zero_le _, rfl, fun q hq => absurd hq (Nat.not_lt_zero _), Below.refl _ _⟩
  case round =>
    obtain ⟨j, hj, rfl, HQ, HBL⟩ := hrel
    obtain ⟨kR, fR⟩ := KR4.out wr HBL.out
    have HB : Hid (Below w.heap.size w wr) := HB4.out.trans (HBL.out.mono HB4.out.size)
    by_cases hlt : j < n
    · have hj0 : (0 : Int) ≤ (j : Int) := by omega
      have hjn : (j : Int) < (n : Int) := by omega
      have hcl := HCC.out wr HB.out j hlt
      have hfj := HFN.out j hlt
      have kV := KV4.out wr HBL.out
      have HCF : Hid (Calls Tryz.prog (fs j) #[.agg V] wr fun e w' => e = wantE (bs j) ∧ Below wr.heap.size wr w') := HFF.out j hlt wr V HB.out (HVA2.out wr (HBO.out.trans (HBL.out.mono HBO.out.size)))
      have HJ : Hid (j < n) := hlt
      clear hlt
      go_wp2_with (refine wpList_load_mid rfl 114 _ rfl _ _ (by rfl) V.toList _ (bx_range kV) Tryz.underlying114 rfl HVJ.out ?_)
      cases hbj : bs j with
      | true =>
        refine HCF.out.mono ?_
        rintro e W5 ⟨rfl, hb⟩
        rw [hbj]
        show _
        have HBL5 : Hid (Below W4.heap.size W4 W5) := HBL.out.trans (hb.mono HBL.out.size)
        have HQ2 : Hid (∀ q, q < j + 1 → bs q = true) := fun q hq => (Nat.lt_or_eq_of_le (Nat.le_of_lt_succ hq)).elim (fun h => HQ.out q h) (fun h => by rw [h]; exact hbj)
        clear hb HCF hcl hfj kV kR fR HQ HB
        simp only [wantE, if_true]
        go_wp2_with fail
        go_roundw
        case rel => exact ⟨j + 1, HJ.out, by go_num, HQ2, HBL5⟩
        case measure => simp [intOf]; have := HJ.out; omega
      | false =>
        refine HCF.out.mono ?_
        rintro e W5 ⟨rfl, hb⟩
        rw [hbj]
        have hrf : R = false := by rw [HR2.out]; exact allB_no HJ.out hbj
        obtain ⟨kR, fR⟩ := KR4.out W5 (HBL.out.trans (hb.mono HBL.out.size))
        replace HB : Hid (Below w.heap.size w W5) := HB.out.trans (hb.mono HB.out.size)
        clear hb HCF hcl hfj kV HQ HBL HR2 HFF HCC HFN
        simp only [wantE, Bool.false_eq_true, if_false]
        go_wp2_with fail
        subst hrf
        have hset : Hid (Below w.heap.size w (W5.setCell ⟨w.heap.size + 1, 0, none⟩ (.bool false))) := Below.setCell (p := ⟨w.heap.size + 1, 0, none⟩) HB.out (by dsimp only; omega) _
        have c0 : (W5.setCell ⟨w.heap.size + 1, 0, none⟩ (.bool false)).cell? ⟨w.heap.size + 1, 0, none⟩ = some (.bool false) := by rw [bx_put kR (k := 0) (by simp)]; rfl
        refine leaves_cons (f := 77) (args := #[.pointer (some ⟨w.heap.size + 1, 0, none⟩)]) (by simp) (by simp [go_sem]) ?_
        refine (iCatchP ⟨w.heap.size + 1, 0, none⟩ false 146 _ [] _ ((kR 0).trans rfl) (fR 0)).mono ?_
        rintro e u' w'' ⟨rfl, rfl, rfl⟩
        refine ⟨.bool false, by simp [results, Tryz.results52, go_sem, c0], rfl, hset.out⟩
    · obtain rfl : j = n := by omega
      have hrt : R = true := by rw [HR2.out]; exact allB_yes HQ.out
      clear HR2 HFF HCC HQ HVA2
      subst hrt
      have hset : Hid (Below w.heap.size w ((wr.setCell ⟨w.heap.size + 1, 0, none⟩ (.bool true)).setCell ⟨w.heap.size + 1, 0, none⟩ (.bool true))) := Below.setCell (p := ⟨w.heap.size + 1, 0, none⟩) (Below.setCell (p := ⟨w.heap.size + 1, 0, none⟩) HB.out (by dsimp only; omega) _) (by dsimp only; omega) _
      have kR1 := bx_put kR (k := 0) (v := .bool true) (by simp)
      have fR1 : ∀ o, (wr.setCell ⟨w.heap.size + 1, 0, none⟩ (.bool true)).frozen? ⟨w.heap.size + 1, o, none⟩ = false := fx_setC fR
      have c0 : ((wr.setCell ⟨w.heap.size + 1, 0, none⟩ (.bool true)).setCell ⟨w.heap.size + 1, 0, none⟩ (.bool true)).cell? ⟨w.heap.size + 1, 0, none⟩ = some (.bool true) := by rw [bx_put kR1 (k := 0) (by simp)]; rfl
      go_wp2_with fail
      refine leaves_cons (f := 77) (args := #[.pointer (some ⟨w.heap.size + 1, 0, none⟩)]) (by simp) (by simp [go_sem]) ?_
      refine (iCatchR ⟨w.heap.size + 1, 0, none⟩ true _ ((kR1 0).trans rfl) (fR1 0)).mono ?_
      rintro e u' w'' ⟨rfl, rfl, rfl⟩
      refine ⟨.bool true, by simp [results, Tryz.results52, go_sem, c0], rfl, hset.out⟩
end Go.Proofs.YtnfkjdcnngoeiabGreat

/- What the program wants of a side: that what is known is there, that what was read and what is held is right; nothing that was in memory turns; no condition. Written by mkaud3.py. -/
namespace Go.Proofs.YtnfkjdcnngoeiabGreat
open Go.RowKit
set_option linter.unusedVariables false
set_option maxRecDepth 8000

theorem bp_put {P : Program} {fn : Func} {R : Ending → World → Prop} {K : Act → World → Prop} {c : List PanicEntry} {a : Act} {d : Option Tmp} {v : Value} {w : World} (h : Exit.then K (bodyPost P fn R) (.panic c) (a.put d v) w) : Exit.then K (bodyPost P fn R) (.panic c) a w := by
  cases d <;> exact h
theorem tot_wrote {c : DConn} {n : Nat} (h : totConn c ≤ n) : c.wrote.length ≤ n := by
  have h' : c.wrote.length + gtTot c.inn + totSubs c.subs ≤ n := h
  omega
theorem tot_done {c : DConn} {n : Nat} (h : totConn c ≤ n) : c.inn.1.length ≤ n := by
  have h' : c.wrote.length + (c.inn.1.length + pcsTot c.inn.2.1) + totSubs c.subs ≤ n := h
  omega
set_option maxHeartbeats 8000000 in
theorem iWantKnown (c o : DConn) (g : List Int) (e : Bool) (V : Array Value) (w : World) (B : Nat) (hv : ∃ C O gu gc, VwA w B c o g e V C O gu gc) (hB : B ≤ w.heap.size) :
    Calls Tryz.prog 39 #[.agg V] w fun r w' => r = wantE (knoV c o) ∧ Below w.heap.size w w' := by
  obtain ⟨C, O, gu, gq, hv⟩ := hv
  obtain ⟨a5, q5, a9, q9, a10, q10, a13, q13, hC⟩ := cn_all hv.rc
  obtain ⟨b5, p5, b9, p9, b10, p10, b13, p13, hO⟩ := cn_all hv.ro
  have v7 : V[7]? = some (.int .i64 c.acked) := (hv.mine (k := 7) (by omega)).trans (by rw [hC.eA]; rfl)
  have v8 : V[8]? = some (.bool c.finDone) := (hv.mine (k := 8) (by omega)).trans (by rw [hC.eA]; rfl)
  have v25 : V[25]? = some (.int .i64 o.finIn) := (hv.other (k := 11) (by omega)).trans (by rw [hO.eA]; rfl)
  have HRG : Hid (∀ (W : World) (b : Nat), (∀ i, W.cell? ⟨b, i, none⟩ = V[i]?) → W.rangeAt b 14 O.toList) := fun W b hk => hv.range hk
  have HDI : Hid (∀ W, Calls Tryz.prog 68 #[.agg O] W fun e w' => e = .returned (.int .i64 (o.inn.1.length : Int)) ∧ Below W.heap.size W w') := fun W => iDoneIn O o.inn.1.length b9 p9 (by rw [hO.eA]; rfl) (tot_done hv.too) W
  have HI : Hid ((Tryz.prog.info? 63).map (·.size) = some O.toList.length) := by show _ = _; rw [Array.length_toList, hv.size.2.2]; exact (by kernel_rfl : (Tryz.prog.info? 63).map (·.size) = some 14)
  clear hv hC hO hB
  unfold knoV
  generalize c.acked = ac at *
  generalize c.finDone = fd at *
  generalize o.finIn = fi at *
  generalize o.inn.1.length = nd at *
  obtain ⟨R, hR⟩ : ∃ R, R = (decide (ac ≤ (nd : Int)) && (!fd || !decide (fi = -1))) := ⟨_, rfl⟩
  rw [← hR]
  have HWA : Hid (Below w.heap.size w (w.alloc (.cells V 114)) ∧ (w.alloc (.cells V 114)).heap.size = w.heap.size + 1 ∧ (∀ o, (w.alloc (.cells V 114)).cell? ⟨w.heap.size, o, none⟩ = V[o]?)) := ⟨(Below.refl _ _).alloc (Nat.le_refl _) _, by simp, fun o => by simp [go_sem]⟩
  go_enter Tryz.func39, Tryz.ntmps39
  go_upto_region 1 with fail
  generalize hWW : w.alloc (.cells V 114) = W1 at HWA ⊢
  clear hWW
  obtain ⟨hb, hsz, k0⟩ := HWA.out
  clear HWA
  have HB : Hid (Below w.heap.size w W1) := hb
  have z0 : w.heap.size < W1.heap.size := by omega
  clear hb hsz
  by_cases h1 : ac ≤ (nd : Int)
  case neg =>
    have h1d : decide (ac ≤ (nd : Int)) = false := decide_eq_false h1
    have h1l : decide ((nd : Int) < ac) = true := decide_eq_true (by omega)
    rw [h1d, Bool.false_and] at hR
    have HR : Hid _ := hR
    clear h1 hR
    refine Goes.start (S := fun w' => Below W1.heap.size W1 w') (z := 100) (by kernel_rfl) ?_
    refine Goes.take (i := 0) (oi := ?oi1) (x := ?vx1) ?ho1 (by kernel_rfl) (by kernel_rfl) (by kernel_rfl) (by kernel_rfl) (fun _ _ _ h => bp_put h) (Or.inl ⟨?hw1, ?hy1⟩) (Below.drew (Below.refl _ _)) ?rest1
    case ho1 => (simp only [List.getElem?_toArray, List.getElem?_cons_zero] <;> rfl)
    case hw1 => rfl
    case hy1 => (intro w' hSw; have j0 := fun o => (hSw.cell (p := ⟨w.heap.size, o, none⟩) z0).trans (k0 o); go_simp; (try with_reducible rfl))
    case rest1 =>
    (try simp only [Act.put, List.setIfInBounds_toArray, List.set_cons_zero, List.set_cons_succ])
    refine Goes.take (i := 1) (oi := ?oi2) (x := ?vx2) ?ho2 (by kernel_rfl) (by kernel_rfl) (by kernel_rfl) (by kernel_rfl) (fun _ _ _ h => bp_put h) (Or.inl ⟨?hw2, ?hy2⟩) (Below.drew (Below.refl _ _)) ?rest2
    case ho2 => (simp only [List.getElem?_toArray, List.getElem?_cons_succ, List.getElem?_cons_zero] <;> rfl)
    case hw2 => rfl
    case hy2 => (intro w' hSw; have j0 := fun o => (hSw.cell (p := ⟨w.heap.size, o, none⟩) z0).trans (k0 o); go_simp; (try with_reducible rfl))
    case rest2 =>
    (try simp only [Act.put, List.setIfInBounds_toArray, List.set_cons_zero, List.set_cons_succ])
    refine Goes.take (i := 2) (oi := ?oi3) (x := ?vx3) ?ho3 (by kernel_rfl) (by kernel_rfl) (by kernel_rfl) (by kernel_rfl) (fun _ _ _ h => bp_put h) (Or.inl ⟨?hw3, ?hy3⟩) (Below.drew (Below.refl _ _)) ?rest3
    case ho3 => (simp only [List.getElem?_toArray, List.getElem?_cons_succ, List.getElem?_cons_zero] <;> rfl)
    case hw3 => rfl
    case hy3 => (intro w' hSw; have j0 := fun o => (hSw.cell (p := ⟨w.heap.size, o, none⟩) z0).trans (k0 o); go_simp; (try with_reducible rfl))
    case rest3 =>
    (try simp only [Act.put, List.setIfInBounds_toArray, List.set_cons_zero, List.set_cons_succ])
    refine Goes.take (i := 3) (oi := ?oi4) (x := ?vx4) ?ho4 (by kernel_rfl) (by kernel_rfl) (by kernel_rfl) (by kernel_rfl) (fun _ _ _ h => bp_put h) (Or.inl ⟨?hw4, ?hy4⟩) (Below.drew (Below.refl _ _)) ?rest4
    case ho4 => (simp only [List.getElem?_toArray, List.getElem?_cons_succ, List.getElem?_cons_zero] <;> rfl)
    case hw4 => rfl
    case hy4 => (intro w' hSw; have j0 := fun o => (hSw.cell (p := ⟨w.heap.size, o, none⟩) z0).trans (k0 o); go_simp; (try with_reducible rfl))
    case rest4 =>
    (try simp only [Act.put, List.setIfInBounds_toArray, List.set_cons_zero, List.set_cons_succ])
    refine Goes.take (i := 4) (oi := ?oi5) (x := .agg (O.toList).toArray) ?ho5 (by kernel_rfl) (by kernel_rfl) (by kernel_rfl) (by kernel_rfl) (fun _ _ _ h => bp_put h) ?hy5 (Below.drew (Below.refl _ _)) ?rest5
    case ho5 => (simp only [List.getElem?_toArray, List.getElem?_cons_succ, List.getElem?_cons_zero] <;> rfl)
    case hy5 => exact yieldsIf_load_mid (by rfl) 63 _ rfl (w.heap.size) (14) (by rfl) (O.toList) _ (fun w' hSw => HRG.out w' _ (fun o => (hSw.cell (p := ⟨w.heap.size, o, none⟩) z0).trans (k0 o))) Tryz.underlying63 rfl HI.out
    case rest5 =>
    (try simp only [Act.put, List.setIfInBounds_toArray, List.set_cons_zero, List.set_cons_succ])
    refine Goes.all (rs := [5]) (by kernel_rfl) (by simp) ?_
    refine Ups.cons (i := 5) (o := ?oo6) ?ho6 (fun KK hKK => ?stp6) Ups.nil
    case ho6 => (simp only [List.getElem?_toArray, List.getElem?_cons_succ, List.getElem?_cons_zero] <;> rfl)
    case stp6 =>
    go_simp
    go_at_call 68
    refine (HDI.out _).mono ?_
    rintro e W2 ⟨rfl, hbq⟩
    replace hbq := (Below.drew (Below.refl W1.heap.size W1)).trans hbq
    have HS6 : Hid (Below W1.heap.size W1 W2) := hbq
    clear hbq
    dsimp only
    refine hKK.out _ _ (Or.inr HS6.out) ?_
    clear hKK KK
    (try simp only [Act.put, List.setIfInBounds_toArray, List.set_cons_zero, List.set_cons_succ])
    refine Goes.take (i := 6) (oi := ?oi7) (x := ?vx7) ?ho7 (by kernel_rfl) (by kernel_rfl) (by kernel_rfl) (by kernel_rfl) (fun _ _ _ h => bp_put h) (Or.inl ⟨?hw7, ?hy7⟩) HS6.out ?rest7
    case ho7 => (simp only [List.getElem?_toArray, List.getElem?_cons_succ, List.getElem?_cons_zero] <;> rfl)
    case hw7 => rfl
    case hy7 => (intro w' hSw; have j0 := fun o => (hSw.cell (p := ⟨w.heap.size, o, none⟩) z0).trans (k0 o); go_simp; (try with_reducible rfl))
    case rest7 =>
    (try simp only [Act.put, List.setIfInBounds_toArray, List.set_cons_zero, List.set_cons_succ])
    refine Goes.all (rs := [7]) (by kernel_rfl) (by simp) ?_
    refine Ups.cons (i := 7) (o := ?oo8) ?ho8 (fun KK hKK => ?stp8) Ups.nil
    case ho8 => (simp only [List.getElem?_toArray, List.getElem?_cons_succ, List.getElem?_cons_zero] <;> rfl)
    case stp8 =>
    go_simp
    go_at_call 63
    refine (iMustF _).mono ?_
    rintro e w' ⟨rfl, hw⟩
    subst w'
    have hb : Below w.heap.size w W2 := HB.out.trans (HS6.out.mono HB.out.size)
    exact ⟨rfl, by rw [HR.out]; rfl, hb⟩
  have h1d : decide (ac ≤ (nd : Int)) = true := decide_eq_true h1
  have h1l : decide ((nd : Int) < ac) = false := decide_eq_false (by omega)
  rw [h1d, Bool.true_and] at hR
  have HR : Hid _ := hR
  clear hR
  refine Goes.start (S := fun w' => Below W1.heap.size W1 w') (z := 100) (by kernel_rfl) ?_
  refine Goes.take (i := 0) (oi := ?oi41) (x := ?vx41) ?ho41 (by kernel_rfl) (by kernel_rfl) (by kernel_rfl) (by kernel_rfl) (fun _ _ _ h => bp_put h) (Or.inl ⟨?hw41, ?hy41⟩) (Below.drew (Below.refl _ _)) ?rest41
  case ho41 => (simp only [List.getElem?_toArray, List.getElem?_cons_zero] <;> rfl)
  case hw41 => rfl
  case hy41 => (intro w' hSw; have j0 := fun o => (hSw.cell (p := ⟨w.heap.size, o, none⟩) z0).trans (k0 o); go_simp; (try with_reducible rfl))
  case rest41 =>
  (try simp only [Act.put, List.setIfInBounds_toArray, List.set_cons_zero, List.set_cons_succ])
  refine Goes.take (i := 1) (oi := ?oi42) (x := ?vx42) ?ho42 (by kernel_rfl) (by kernel_rfl) (by kernel_rfl) (by kernel_rfl) (fun _ _ _ h => bp_put h) (Or.inl ⟨?hw42, ?hy42⟩) (Below.drew (Below.refl _ _)) ?rest42
  case ho42 => (simp only [List.getElem?_toArray, List.getElem?_cons_succ, List.getElem?_cons_zero] <;> rfl)
  case hw42 => rfl
  case hy42 => (intro w' hSw; have j0 := fun o => (hSw.cell (p := ⟨w.heap.size, o, none⟩) z0).trans (k0 o); go_simp; (try with_reducible rfl))
  case rest42 =>
  (try simp only [Act.put, List.setIfInBounds_toArray, List.set_cons_zero, List.set_cons_succ])
  refine Goes.take (i := 2) (oi := ?oi43) (x := ?vx43) ?ho43 (by kernel_rfl) (by kernel_rfl) (by kernel_rfl) (by kernel_rfl) (fun _ _ _ h => bp_put h) (Or.inl ⟨?hw43, ?hy43⟩) (Below.drew (Below.refl _ _)) ?rest43
  case ho43 => (simp only [List.getElem?_toArray, List.getElem?_cons_succ, List.getElem?_cons_zero] <;> rfl)
  case hw43 => rfl
  case hy43 => (intro w' hSw; have j0 := fun o => (hSw.cell (p := ⟨w.heap.size, o, none⟩) z0).trans (k0 o); go_simp; (try with_reducible rfl))
  case rest43 =>
  (try simp only [Act.put, List.setIfInBounds_toArray, List.set_cons_zero, List.set_cons_succ])
  refine Goes.take (i := 3) (oi := ?oi44) (x := ?vx44) ?ho44 (by kernel_rfl) (by kernel_rfl) (by kernel_rfl) (by kernel_rfl) (fun _ _ _ h => bp_put h) (Or.inl ⟨?hw44, ?hy44⟩) (Below.drew (Below.refl _ _)) ?rest44
  case ho44 => (simp only [List.getElem?_toArray, List.getElem?_cons_succ, List.getElem?_cons_zero] <;> rfl)
  case hw44 => rfl
  case hy44 => (intro w' hSw; have j0 := fun o => (hSw.cell (p := ⟨w.heap.size, o, none⟩) z0).trans (k0 o); go_simp; (try with_reducible rfl))
  case rest44 =>
  (try simp only [Act.put, List.setIfInBounds_toArray, List.set_cons_zero, List.set_cons_succ])
  refine Goes.take (i := 4) (oi := ?oi45) (x := .agg (O.toList).toArray) ?ho45 (by kernel_rfl) (by kernel_rfl) (by kernel_rfl) (by kernel_rfl) (fun _ _ _ h => bp_put h) ?hy45 (Below.drew (Below.refl _ _)) ?rest45
  case ho45 => (simp only [List.getElem?_toArray, List.getElem?_cons_succ, List.getElem?_cons_zero] <;> rfl)
  case hy45 => exact yieldsIf_load_mid (by rfl) 63 _ rfl (w.heap.size) (14) (by rfl) (O.toList) _ (fun w' hSw => HRG.out w' _ (fun o => (hSw.cell (p := ⟨w.heap.size, o, none⟩) z0).trans (k0 o))) Tryz.underlying63 rfl HI.out
  case rest45 =>
  (try simp only [Act.put, List.setIfInBounds_toArray, List.set_cons_zero, List.set_cons_succ])
  refine Goes.all (rs := [5]) (by kernel_rfl) (by simp) ?_
  refine Ups.cons (i := 5) (o := ?oo46) ?ho46 (fun KK hKK => ?stp46) Ups.nil
  case ho46 => (simp only [List.getElem?_toArray, List.getElem?_cons_succ, List.getElem?_cons_zero] <;> rfl)
  case stp46 =>
  go_simp
  go_at_call 68
  refine (HDI.out _).mono ?_
  rintro e W2 ⟨rfl, hbq⟩
  replace hbq := (Below.drew (Below.refl W1.heap.size W1)).trans hbq
  have HS46 : Hid (Below W1.heap.size W1 W2) := hbq
  clear hbq
  dsimp only
  refine hKK.out _ _ (Or.inr HS46.out) ?_
  clear hKK KK
  (try simp only [Act.put, List.setIfInBounds_toArray, List.set_cons_zero, List.set_cons_succ])
  refine Goes.take (i := 6) (oi := ?oi47) (x := ?vx47) ?ho47 (by kernel_rfl) (by kernel_rfl) (by kernel_rfl) (by kernel_rfl) (fun _ _ _ h => bp_put h) (Or.inl ⟨?hw47, ?hy47⟩) HS46.out ?rest47
  case ho47 => (simp only [List.getElem?_toArray, List.getElem?_cons_succ, List.getElem?_cons_zero] <;> rfl)
  case hw47 => rfl
  case hy47 => (intro w' hSw; have j0 := fun o => (hSw.cell (p := ⟨w.heap.size, o, none⟩) z0).trans (k0 o); go_simp; (try with_reducible rfl))
  case rest47 =>
  (try simp only [Act.put, List.setIfInBounds_toArray, List.set_cons_zero, List.set_cons_succ])
  refine Goes.all (rs := [7]) (by kernel_rfl) (by simp) ?_
  refine Ups.cons (i := 7) (o := ?oo48) ?ho48 (fun KK hKK => ?stp48) Ups.nil
  case ho48 => (simp only [List.getElem?_toArray, List.getElem?_cons_succ, List.getElem?_cons_zero] <;> rfl)
  case stp48 =>
  go_simp
  go_at_call 63
  refine (iMustT _).mono ?_
  rintro e w' ⟨rfl, hw⟩
  subst w'
  dsimp only
  refine hKK.out _ _ (Or.inr HS46.out) ?_
  clear hKK KK
  (try simp only [Act.put, List.setIfInBounds_toArray, List.set_cons_zero, List.set_cons_succ])
  refine Goes.done (by kernel_rfl) ?_ _
  have hb : Below W1.heap.size W1 W2 := HS46.out
  replace k0 := bx_below k0 z0 hb
  replace HB : Hid (Below w.heap.size w W2) := HB.out.trans (hb.mono HB.out.size)
  clear hb HRG HDI HI z0 h1 h1d h1l HS46
  cases fd
  case false =>
    have HR' : Hid (R = true) := HR.out
    clear HR
    go_wp2_with (go_at_call 63; refine (iMustT _).mono ?_; rintro e w' ⟨rfl, hw⟩; subst w')
    go_end0
    exact ⟨by rw [HR'.out]; rfl, HB.out⟩
  by_cases h2 : fi = -1
  case pos =>
    have HR' : Hid (R = false) := by show _ = _; rw [HR.out, decide_eq_true h2]; rfl
    have h2' : (fi != -1) = false := by simp [h2]
    clear HR h2
    go_wp2_with (go_at_call 63; refine (iMustF _).mono ?_; rintro e w' ⟨rfl, hw⟩; subst w')
    exact ⟨rfl, by rw [HR'.out]; rfl, HB.out⟩
  have HR' : Hid (R = true) := by show _ = _; rw [HR.out, decide_eq_false h2]; rfl
  have h2' : (fi != -1) = true := by simp [h2]
  clear h2 HR
  go_wp2_with (go_at_call 63; refine (iMustT _).mono ?_; rintro e w' ⟨rfl, hw⟩; subst w')
  go_end0
  exact ⟨by rw [HR'.out]; rfl, HB.out⟩
/-- What was read is a beginning of what was written, and an end is one. -/
def preV (o : DConn) (g : List Int) (e : Bool) : Bool := decide (g.length ≤ o.wrote.length ∧ o.wrote.take g.length = g) && (!e || (o.fin && decide ((o.wrote.length : Int) = (g.length : Int))))
/-- What is held is right. -/
noncomputable def heldV (c o : DConn) : Bool := fitsV c.inn o.wrote && (decide (c.finIn = -1) || (o.fin && decide ((o.wrote.length : Int) = c.finIn)))
set_option maxHeartbeats 4000000 in
theorem iWantPrefix (c o : DConn) (g : List Int) (e : Bool) (V : Array Value) (w : World) (B : Nat) (hv : ∃ C O gu gc, VwA w B c o g e V C O gu gc) (hB : B ≤ w.heap.size) :
    Calls Tryz.prog 36 #[.agg V] w fun r w' => r = wantE (preV o g e) ∧ Below w.heap.size w w' := by
  obtain ⟨C, O, gu, gq, hv⟩ := hv
  obtain ⟨a5, q5, a9, q9, a10, q10, a13, q13, hC⟩ := cn_all hv.rc
  obtain ⟨b5, p5, b9, p9, b10, p10, b13, p13, hO⟩ := cn_all hv.ro
  have v19 : V[19]? = some (.slice b5 o.wrote.length p5) := (hv.other (k := 5) (by omega)).trans (by rw [hO.eA]; rfl)
  obtain ⟨v28, v29⟩ := hv.last
  have HRG : Hid (∀ (W : World) (b : Nat), (∀ i, W.cell? ⟨b, i, none⟩ = V[i]?) → W.rangeAt b 14 O.toList) := fun W b hk => hv.range hk
  have HI : Hid ((Tryz.prog.info? 63).map (·.size) = some O.toList.length) := by show _ = _; rw [Array.length_toList, hv.size.2.2]; exact (by kernel_rfl : (Tryz.prog.info? 63).map (·.size) = some 14)
  have HEN : Hid (∀ W, Calls Tryz.prog 65 #[.agg O, .int .i64 (g.length : Int)] W fun e w' => e = .returned (.bool (o.fin && decide ((o.wrote.length : Int) = (g.length : Int)))) ∧ Below W.heap.size W w') := fun W => iEndsAt O o.fin b5 o.wrote.length p5 _ W (by rw [hO.eA]; rfl) (by rw [hO.eA]; rfl) (tot_wrote hv.too)
  obtain ⟨-, cp1, cp2, cp3⟩ := rd_cap hO.wr
  have HHP : Hid (∀ W, Below w.heap.size w W → Calls Tryz.prog 64 #[.slice b5 o.wrote.length p5, .slice gu g.length gq] W fun e w' => e = .returned (.bool (decide (g.length ≤ o.wrote.length ∧ o.wrote.take g.length = g))) ∧ w' = W) := by
    intro W hW
    obtain ⟨_, _, e1, q1, -, -⟩ := rd_bytes (hO.wr.below hB hW)
    simp only [List.cons.injEq, Value.slice.injEq, and_true, true_and] at e1
    obtain ⟨rfl, rfl⟩ := e1
    obtain ⟨_, _, e1, q2, -, -⟩ := rd_bytes (hv.rg.below hB hW)
    simp only [List.cons.injEq, Value.slice.injEq, and_true, true_and] at e1
    obtain ⟨rfl, rfl⟩ := e1
    exact bHasPrefix _ _ _ _ _ _ W q1 q2 cp3 cp1 cp2
  have hg9 : (g.length : Int) ≤ 9223372036854775807 := by have := row_max hv.rg; omega
  clear hv hC hO hB cp1 cp2 cp3
  unfold preV
  generalize decide (g.length ≤ o.wrote.length ∧ o.wrote.take g.length = g) = q1 at *
  generalize (o.fin && decide ((o.wrote.length : Int) = (g.length : Int))) = q2 at *
  generalize o.wrote.length = wl at *
  generalize g.length = gl at *
  obtain ⟨R, hR⟩ : ∃ R, R = (q1 && (!e || q2)) := ⟨_, rfl⟩
  rw [← hR]
  have HR : Hid _ := hR
  clear hR
  have HWA : Hid (Below w.heap.size w (w.alloc (.cells V 114)) ∧ (w.alloc (.cells V 114)).heap.size = w.heap.size + 1 ∧ (∀ o, (w.alloc (.cells V 114)).cell? ⟨w.heap.size, o, none⟩ = V[o]?)) := ⟨(Below.refl _ _).alloc (Nat.le_refl _) _, by simp, fun o => by simp [go_sem]⟩
  go_enter Tryz.func36, Tryz.ntmps36
  go_upto_region 1 with fail
  generalize hWW : w.alloc (.cells V 114) = W1 at HWA ⊢
  clear hWW
  obtain ⟨hb, hsz, k0⟩ := HWA.out
  clear HWA
  have HB : Hid (Below w.heap.size w W1) := hb
  have z0 : w.heap.size < W1.heap.size := by omega
  clear hb hsz
  cases q1
  case false =>
    have HR' : Hid (R = false) := HR.out
    clear HR
    go_wp2_with (first | (go_at_call 64; refine (HHP.out _ HB.out).mono ?_; rintro e w' ⟨rfl, hw⟩; subst w') | (go_at_call 63; refine (iMustF _).mono ?_; rintro e w' ⟨rfl, hw⟩; subst w'))
    exact ⟨rfl, by rw [HR'.out]; rfl, HB.out⟩
  have HR1 : Hid (R = (!e || q2)) := by show _ = _; rw [HR.out, Bool.true_and]
  clear HR
  cases e
  case false =>
    have HR' : Hid (R = true) := HR1.out
    clear HR1
    go_wp2_with (first | (go_at_call 64; refine (HHP.out _ HB.out).mono ?_; rintro e w' ⟨rfl, hw⟩; subst w') | (go_at_call 63; refine (iMustT _).mono ?_; rintro e w' ⟨rfl, hw⟩; subst w'))
    go_end0
    exact ⟨by rw [HR'.out]; rfl, HB.out⟩
  go_wp2_with (first | (go_at_call 64; refine (HHP.out _ HB.out).mono ?_; rintro e w' ⟨rfl, hw⟩; subst w') | (go_at_call 63; refine (iMustT _).mono ?_; rintro e w' ⟨rfl, hw⟩; subst w') | (refine wpList_load_mid rfl 63 _ rfl _ _ (by rfl) O.toList _ (HRG.out _ _ k0) Tryz.underlying63 rfl HI.out ?_))
  refine (HEN.out _).mono ?_
  rintro e W2 ⟨rfl, hb⟩
  replace k0 := bx_below k0 z0 hb
  replace z0 := Nat.lt_of_lt_of_le z0 hb.size
  replace HB : Hid (Below w.heap.size w W2) := HB.out.trans (hb.mono HB.out.size)
  clear hb
  clear HEN HHP HRG HI k0 z0
  cases q2
  case false =>
    have HR' : Hid (R = false) := HR1.out
    clear HR1
    go_wp2_with (go_at_call 63; refine (iMustF _).mono ?_; rintro e w' ⟨rfl, hw⟩; subst w')
    exact ⟨rfl, by rw [HR'.out]; rfl, HB.out⟩
  have HR' : Hid (R = true) := HR1.out
  clear HR1
  go_wp2_with (go_at_call 63; refine (iMustT _).mono ?_; rintro e w' ⟨rfl, hw⟩; subst w')
  go_end0
  exact ⟨by rw [HR'.out]; rfl, HB.out⟩
set_option maxHeartbeats 4000000 in
theorem iWantHeld (c o : DConn) (g : List Int) (e : Bool) (V : Array Value) (w : World) (B : Nat) (hv : ∃ C O gu gc, VwA w B c o g e V C O gu gc) (hB : B ≤ w.heap.size) :
    Calls Tryz.prog 37 #[.agg V] w fun r w' => r = wantE (heldV c o) ∧ Below w.heap.size w w' := by
  obtain ⟨C, O, gu, gq, hv⟩ := hv
  obtain ⟨a5, q5, a9, q9, a10, q10, a13, q13, hC⟩ := cn_all hv.rc
  obtain ⟨b5, p5, b9, p9, b10, p10, b13, p13, hO⟩ := cn_all hv.ro
  have v9 : V[9]? = some (.slice a9 c.inn.1.length q9) := (hv.mine (k := 9) (by omega)).trans (by rw [hC.eA]; rfl)
  have v10 : V[10]? = some (.slice a10 c.inn.2.1.length q10) := (hv.mine (k := 10) (by omega)).trans (by rw [hC.eA]; rfl)
  have v11 : V[11]? = some (.int .i64 c.finIn) := (hv.mine (k := 11) (by omega)).trans (by rw [hC.eA]; rfl)
  have v19 : V[19]? = some (.slice b5 o.wrote.length p5) := (hv.other (k := 5) (by omega)).trans (by rw [hO.eA]; rfl)
  have HRG : Hid (∀ (W : World) (b : Nat), (∀ i, W.cell? ⟨b, i, none⟩ = V[i]?) → W.rangeAt b 14 O.toList) := fun W b hk => hv.range hk
  have HI : Hid ((Tryz.prog.info? 63).map (·.size) = some O.toList.length) := by show _ = _; rw [Array.length_toList, hv.size.2.2]; exact (by kernel_rfl : (Tryz.prog.info? 63).map (·.size) = some 14)
  have HEN : Hid (∀ W, Calls Tryz.prog 65 #[.agg O, .int .i64 c.finIn] W fun e w' => e = .returned (.bool (o.fin && decide ((o.wrote.length : Int) = c.finIn))) ∧ Below W.heap.size W w') := fun W => iEndsAt O o.fin b5 o.wrote.length p5 _ W (by rw [hO.eA]; rfl) (by rw [hO.eA]; rfl) (tot_wrote hv.too)
  have HFS : Hid (∀ W, Below w.heap.size w W → Calls Tryz.prog 66 #[.agg #[.slice a9 c.inn.1.length q9, .slice a10 c.inn.2.1.length q10], .slice b5 o.wrote.length p5] W fun e w' => e = .returned (.bool (fitsV c.inn o.wrote)) ∧ Below W.heap.size W w') := fun W hW => iFitsStream c.inn _ _ o.wrote b5 p5 W B (hC.inn.below hB hW) (hO.wr.below hB hW) (Nat.le_trans hB hW.size) (tot_wrote hv.too)
  clear hv hC hO hB
  unfold heldV
  generalize fitsV c.inn o.wrote = q1 at *
  generalize (o.fin && decide ((o.wrote.length : Int) = c.finIn)) = q2 at *
  generalize o.wrote.length = wl at *
  generalize c.inn.1.length = n1 at *
  generalize c.inn.2.1.length = n2 at *
  generalize c.finIn = fi at *
  obtain ⟨R, hR⟩ : ∃ R, R = (q1 && (decide (fi = -1) || q2)) := ⟨_, rfl⟩
  rw [← hR]
  have HR : Hid _ := hR
  clear hR
  have HWA : Hid (Below w.heap.size w (w.alloc (.cells V 114)) ∧ (w.alloc (.cells V 114)).heap.size = w.heap.size + 1 ∧ (∀ o, (w.alloc (.cells V 114)).cell? ⟨w.heap.size, o, none⟩ = V[o]?)) := ⟨(Below.refl _ _).alloc (Nat.le_refl _) _, by simp, fun o => by simp [go_sem]⟩
  go_enter Tryz.func37, Tryz.ntmps37
  go_upto_region 1 with fail
  generalize hWW : w.alloc (.cells V 114) = W1 at HWA ⊢
  clear hWW
  obtain ⟨hb, hsz, k0⟩ := HWA.out
  clear HWA
  have HB : Hid (Below w.heap.size w W1) := hb
  have z0 : w.heap.size < W1.heap.size := by omega
  clear hb hsz
  go_wp2_with fail
  refine (HFS.out _ HB.out).mono ?_
  rintro e W2 ⟨rfl, hb⟩
  replace k0 := bx_below k0 z0 hb
  replace z0 := Nat.lt_of_lt_of_le z0 hb.size
  replace HB : Hid (Below w.heap.size w W2) := HB.out.trans (hb.mono HB.out.size)
  clear hb
  clear HFS
  cases q1
  case false =>
    have HR' : Hid (R = false) := HR.out
    clear HR
    go_wp2_with (go_at_call 63; refine (iMustF _).mono ?_; rintro e w' ⟨rfl, hw⟩; subst w')
    exact ⟨rfl, by rw [HR'.out]; rfl, HB.out⟩
  have HR1 : Hid (R = (decide (fi = -1) || q2)) := by show _ = _; rw [HR.out, Bool.true_and]
  clear HR
  by_cases h2 : fi = -1
  case pos =>
    have HR' : Hid (R = true) := by show _ = _; rw [HR1.out, decide_eq_true h2]; rfl
    have h2' : (fi == -1) = true := by simp [h2]
    clear HR1 h2
    go_wp2_with (go_at_call 63; refine (iMustT _).mono ?_; rintro e w' ⟨rfl, hw⟩; subst w')
    go_end0
    exact ⟨by rw [HR'.out]; rfl, HB.out⟩
  have HR2 : Hid (R = q2) := by show _ = _; rw [HR1.out, decide_eq_false h2]; rfl
  have h2' : (fi == -1) = false := by simp [h2]
  clear HR1 h2
  go_upto_region 2 with (go_at_call 63; refine (iMustT _).mono ?_; rintro e w' ⟨rfl, hw⟩; subst w')
  go_wp2_with (first | (refine Go.BigFrame.wpList_want (by rfl) fun KK hKK => wp_load_mid 63 _ rfl _ _ (by rfl) O.toList _ (HRG.out _ _ k0) Tryz.underlying63 rfl HI.out (hKK _ _ ?_); clear hKK KK) | (refine wpList_load_mid rfl 63 _ rfl _ _ (by rfl) O.toList _ (HRG.out _ _ k0) Tryz.underlying63 rfl HI.out ?_) | (go_at_call 65; refine (HEN.out _).mono ?_; rintro e W3 ⟨rfl, hb⟩; replace k0 := bx_below k0 z0 hb; replace z0 := Nat.lt_of_lt_of_le z0 hb.size; replace HB : Hid (Below w.heap.size w W3) := HB.out.trans (hb.mono HB.out.size); clear hb))
  clear HEN HRG HI k0 z0
  cases q2
  case false =>
    have HR' : Hid (R = false) := HR2.out
    clear HR2
    go_wp2_with (go_at_call 63; refine (iMustF _).mono ?_; rintro e w' ⟨rfl, hw⟩; subst w')
    exact ⟨rfl, by rw [HR'.out]; rfl, HB.out⟩
  have HR' : Hid (R = true) := HR2.out
  clear HR2
  go_wp2_with (go_at_call 63; refine (iMustT _).mono ?_; rintro e w' ⟨rfl, hw⟩; subst w')
  go_end0
  exact ⟨by rw [HR'.out]; rfl, HB.out⟩
end Go.Proofs.YtnfkjdcnngoeiabGreat
