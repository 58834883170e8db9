/- KillPath by the program; nothing that was in memory turns; the condition is that there are at most a million parts. Written by mknet11.py. -/
import Derived.Test.YtebgibjokljlbaaRows
import Derived.Deep.RegionHeld3
import Derived.Deep.DeepCutAuto
import Derived.Deep.DeepMust
import Derived.Deep.MidRow
import Derived.Test.YtebgibjokljlbaaK01
import Derived.Test.YtebgibjokljlbaaK02
import Derived.Test.YtebgibjokljlbaaK03
import Derived.Test.YtebgibjokljlbaaK10
import Derived.Test.YtebgibjokljlbaaK17
import Derived.Test.YtebgibjokljlbaaK20
import Derived.Test.YtebgibjokljlbaaK42
import Derived.Test.YtebgibjokljlbaaK43
import Derived.Test.YtebgibjokljlbaaK55
import Derived.Test.YtebgibjokljlbaaK56
import Derived.Test.YtebgibjokljlbaaK57
import Derived.Test.YtebgibjokljlbaaK64
import Derived.Test.YtebgibjokljlbaaK66
import Derived.Test.YtebgibjokljlbaaK67
import Derived.Test.YtebgibjokljlbaaK93
import Derived.Test.YtebgibjokljlbaaK94
namespace Go.Proofs.Ytebgibjokljlbaa
open Go.RowKit
set_option linter.unusedVariables false
set_option maxRecDepth 8000
def killF (x : Int) (l : List DSegm) : List DSegm := l.filter fun s => s.1 != x
def kilV (g : DNet) (x : Int) : DNR := if netF g.1 g.2.1 ≠ 0 then badN (netF g.1 g.2.1) else if inB9 x 0 2 = false then badN 3 else (0, zSg, (killF x g.1, g.2.1.set x.toNat true, ()), ())
theorem tot_filter (p : DSegm → Bool) : ∀ (l : List DSegm), totSegms (l.filter p) ≤ totSegms l
  | [] => Nat.le_refl _
  | x :: r => by
    have ih := tot_filter p r
    have e2 : totSegms (x :: r) = totSegms [x] + totSegms r := totSegms_app [x] r
    rw [List.filter_cons]
    split
    · have e1 : totSegms (x :: r.filter p) = totSegms [x] + totSegms (r.filter p) := totSegms_app [x] _
      omega
    · omega
theorem kilV_tot {g : DNet} (x : Int) (h : totNet g ≤ 1048576) : totNR (kilV g x) ≤ 1048576 := by
  unfold kilV
  split
  · rw [tot_badN]; omega
  · split
    · rw [tot_badN]; omega
    · unfold totNet at h
      have := tot_filter (fun s => s.1 != x) g.1
      show 0 + (totSegms (killF x g.1) + (g.2.1.set x.toNat true).length) ≤ _
      rw [List.length_set]
      unfold killF
      omega
/-- What is put behind where one path more is dead: all but its own. -/
theorem kill_put {dead : List Bool} {k : Nat} (hk : k < dead.length) : ∀ (l acc : List DSegm), (∀ x ∈ l, deadAt dead x = false ∧ 0 ≤ x.1 ∧ x.1 < dead.length) → acc.length + l.length ≤ 60 → putN (dead.set k true) acc l = acc ++ killF k l
  | [], acc, _, _ => by simp [putN, killF]
  | x :: r, acc, h, hl => by
    have hx := h x (by simp)
    simp only [List.length_cons] at hl
    have e : putN (dead.set k true) acc (x :: r) = putN (dead.set k true) (put1 (dead.set k true) acc x) r := rfl
    have hd : deadAt (dead.set k true) x = decide (x.1 = k) := by
      have h0 := hx.1
      unfold deadAt at h0 ⊢
      rw [List.getD_eq_getElem?_getD] at h0 ⊢
      rw [List.getElem?_set]
      by_cases e : x.1 = k
      · have e1 : x.1.toNat = k := by omega
        rw [e1, if_pos rfl, if_pos hk]
        simp [e]
      · have e1 : ¬ k = x.1.toNat := by omega
        rw [if_neg e1, h0]
        simp [e]
    have hr : ∀ y ∈ r, deadAt dead y = false ∧ 0 ≤ y.1 ∧ y.1 < dead.length := fun y hy => h y (List.mem_cons_of_mem _ hy)
    rw [e]
    by_cases e : x.1 = k
    · have e1 : put1 (dead.set k true) acc x = acc := by unfold put1; rw [if_neg (by rw [hd]; simp [e])]
      rw [e1, kill_put hk r acc hr (by omega)]
      congr 1
      unfold killF
      rw [List.filter_cons]
      simp [e]
    · have e1 : put1 (dead.set k true) acc x = acc ++ [x] := by unfold put1; rw [if_pos ⟨by rw [hd]; simp [e], by omega⟩]
      rw [e1, kill_put hk r (acc ++ [x]) hr (by simp; omega)]
      unfold killF
      rw [List.filter_cons]
      simp [e]
theorem arr3_set (l : List Bool) (h : l.length = 3) (k : Nat) (hk : k < 3) : (arr3 l).setIfInBounds k (.bool true) = arr3 (l.set k true) := by
  match l, h with
  | [a, b, c], _ =>
    match k, hk with
    | 0, _ => rfl
    | 1, _ => rfl
    | 2, _ => rfl
set_option maxHeartbeats 8000000 in
theorem iKillPathA (x0 : DNet) (A : Array Value) (x1 : Int) (w : World) (B : Nat) (hr : shNet.Rd w B x0 A.toList) (hT : totNet x0 ≤ 1048576) (hB : B ≤ w.heap.size) :
    Calls Try.prog 22 #[.agg A, .int .i64 x1] w fun e w' => ∃ N : Array Value, e = .returned (.agg N) ∧ Own w' w.heap.size w'.heap.size (shNR 104) (kilV x0 x1) N.toList ∧ Below w.heap.size w w' := by
  obtain ⟨bag, dead, ⟨⟩⟩ := x0
  obtain ⟨a, cap, da, dcap, eA, rb, rdd⟩ := rd_Net hr
  have a0 : A[0]? = some (.slice a bag.length cap) := get_of eA 0
  have a1 : A[1]? = some (.slice da dead.length dcap) := get_of eA 1
  have HRb : Hid (∀ W, Below w.heap.size w W → shSegms.Rd W B bag [.slice a bag.length cap]) := fun W hW => Sh.Rd.below rb hB hW
  have HRd : Hid (∀ W, Below w.heap.size w W → (bls 4).Rd W B dead [.slice da dead.length dcap]) := fun W hW => Sh.Rd.below rdd hB hW
  have eA2 := arr_of eA
  have HA2 : Hid (A = #[.slice a bag.length cap, .slice da dead.length dcap]) := eA2
  have HIA : Hid ((Try.prog.info? 44).map (·.size) = some A.toList.length) := by show _ = _; rw [eA]; exact info_NT
  have ht : totSegms bag + dead.length ≤ 1048576 := hT
  have HNF : Hid (∀ W, Below w.heap.size w W → Calls Try.prog 23 #[.agg A] W fun e w' => e = .returned (.int .i64 (netF bag dead)) ∧ Below W.heap.size W w') := fun W hW => by rw [HA2.out]; exact iNetFault _ bag dead _ _ W B (HRb.out W hW) (HRd.out W hW) (Nat.le_trans hB hW.size)
  have HIB : Hid (∀ W, Calls Try.prog 68 #[.int .i64 x1, .int .i64 0, .int .i64 2] W fun e w' => e = .returned (.bool (inB9 x1 0 2)) ∧ w' = W) := fun W => iInB9 x1 0 2 W
  obtain ⟨V, hV⟩ : ∃ V, V = kilV (bag, dead, ()) x1 := ⟨_, rfl⟩
  rw [← hV]
  have HV : Hid (V = if netF bag dead ≠ 0 then badN (netF bag dead) else if inB9 x1 0 2 = false then badN 3 else (0, zSg, (killF x1 bag, dead.set x1.toNat true, ()), ())) := hV
  have HWF : Hid _ := netF_wf bag dead
  clear hV eA eA2 rb rdd hr hT
  have HWA : Hid (Below w.heap.size w ((w.alloc (.cells A 44)).alloc (.cells #[.int .i64 0, .int .i64 0, .int .i64 0, .bool false, .bool false, .bool false, .int .i64 0, .int .i64 0, .int .i64 0, .int .i64 0, .int .i64 0, .int .i64 0, .slice none 0 0, .slice none 0 0, .slice none 0 0] 50)) ∧ ((w.alloc (.cells A 44)).alloc (.cells #[.int .i64 0, .int .i64 0, .int .i64 0, .bool false, .bool false, .bool false, .int .i64 0, .int .i64 0, .int .i64 0, .int .i64 0, .int .i64 0, .int .i64 0, .slice none 0 0, .slice none 0 0, .slice none 0 0] 50)).heap.size = w.heap.size + 2 ∧ (∀ o, ((w.alloc (.cells A 44)).alloc (.cells #[.int .i64 0, .int .i64 0, .int .i64 0, .bool false, .bool false, .bool false, .int .i64 0, .int .i64 0, .int .i64 0, .int .i64 0, .int .i64 0, .int .i64 0, .slice none 0 0, .slice none 0 0, .slice none 0 0] 50)).cell? ⟨w.heap.size, o, none⟩ = (A : Array Value)[o]?) ∧ (∀ o, ((w.alloc (.cells A 44)).alloc (.cells #[.int .i64 0, .int .i64 0, .int .i64 0, .bool false, .bool false, .bool false, .int .i64 0, .int .i64 0, .int .i64 0, .int .i64 0, .int .i64 0, .int .i64 0, .slice none 0 0, .slice none 0 0, .slice none 0 0] 50)).cell? ⟨w.heap.size + 1, o, none⟩ = (#[.int .i64 0, .int .i64 0, .int .i64 0, .bool false, .bool false, .bool false, .int .i64 0, .int .i64 0, .int .i64 0, .int .i64 0, .int .i64 0, .int .i64 0, .slice none 0 0, .slice none 0 0, .slice none 0 0] : Array Value)[o]?) ∧ (∀ o, ((w.alloc (.cells A 44)).alloc (.cells #[.int .i64 0, .int .i64 0, .int .i64 0, .bool false, .bool false, .bool false, .int .i64 0, .int .i64 0, .int .i64 0, .int .i64 0, .int .i64 0, .int .i64 0, .slice none 0 0, .slice none 0 0, .slice none 0 0] 50)).frozen? ⟨w.heap.size + 1, o, none⟩ = false)) := ⟨(((Below.refl _ _).alloc (Nat.le_refl _) _).alloc (by simp) _), by simp, fun o => by simp [go_sem], fun o => by simp [go_sem], fun o => by simp [go_sem]⟩
  go_enter Try.func22, Try.ntmps22
  go_upto_region 1 with fail
  generalize hWW : ((w.alloc (.cells A 44)).alloc (.cells #[.int .i64 0, .int .i64 0, .int .i64 0, .bool false, .bool false, .bool false, .int .i64 0, .int .i64 0, .int .i64 0, .int .i64 0, .int .i64 0, .int .i64 0, .slice none 0 0, .slice none 0 0, .slice none 0 0] 50)) = W1 at HWA ⊢
  clear hWW
  obtain ⟨hb, hsz, kA, kR, fR⟩ := HWA.out
  clear HWA
  have HB : Hid (Below w.heap.size w W1) := hb
  have zA : w.heap.size < W1.heap.size := by omega
  have zR : w.heap.size + 1 < W1.heap.size := by omega
  clear hb hsz
  go_wp2_with (refine wpList_load_mid rfl 44 _ rfl _ _ (by rfl) A.toList _ (bx_range kA) Try.underlying44 rfl HIA.out ?_)
  refine (HNF.out _ HB.out).mono ?_
  rintro e w2 ⟨rfl, hb⟩
  replace kA := bx_below kA zA hb
  replace zA := Nat.lt_of_lt_of_le zA hb.size
  replace kR := bx_below kR zR hb
  replace fR := bxF fR hb zR
  replace zR := Nat.lt_of_lt_of_le zR hb.size
  replace HB : Hid (Below w.heap.size w w2) := HB.out.trans (hb.mono HB.out.size)
  clear hb
  have hv := HV.out
  clear HV
  by_cases hF : netF bag dead = 0
  · rw [if_neg (by simp [hF])] at hv
    obtain ⟨h60, h3, hok⟩ := netF_ok hF
    rw [hF]
    go_wp2_with fail
    refine (HIB.out _).mono ?_
    rintro e w3 ⟨rfl, hw3⟩
    subst w3
    cases hI : inB9 x1 0 2 with
    | false =>
      rw [if_pos hI] at hv
      clear HNF HIB
      obtain ⟨N15, hN⟩ : ∃ N : Array Value, N = #[.int .i64 3, .int .i64 0, .int .i64 0, .bool false, .bool false, .bool false, .int .i64 0, .int .i64 0, .int .i64 0, .int .i64 0, .int .i64 0, .int .i64 0, .slice none 0 0, .slice none 0 0, .slice none 0 0] := ⟨_, rfl⟩
      have HN15 : Hid _ := hN
      have hNz : N15.size = 15 := by rw [hN]; rfl
      have HNZ15 : Hid (N15.size = 15) := hNz
      have HIN15 : Hid ((Try.prog.info? 50).map (·.size) = some N15.size) := by show _ = _; rw [hNz]; exact info_NR
      have HONE15 : Hid (N15.all (·.oneCell') = true) := by show _ = _; rw [hN]; simp [Value.oneCell']
      clear hN hNz
      have HTH : Hid (w2.there (w.heap.size + 1) 0 N15.size) := bx_there kR fR (by rw [HNZ15.out]; rfl)
      have HKR : Hid (∀ o, (w2.setCells (w.heap.size + 1) 0 N15.toList).cell? ⟨w.heap.size + 1, o, none⟩ = N15[o]?) := bx_setCells kR (by rw [HNZ15.out]; rfl)
      go_wp2_with (first | (refine wpList_store_mid rfl 50 _ _ rfl _ _ N15 (by rfl) (by rw [HN15.out]; rfl) HTH.out HIN15.out HONE15.out ?_))
      refine bodyPost_ret (results_box Try.results22 _ _ _ N15 _ (by rfl) HKR.out Try.underlying50 rfl (by exact HIN15.out)) rfl ⟨N15, rfl, ?_, ?_⟩
      · rw [setCells_size, HN15.out]
        exact (Own.keep (by rw [hv]; exact own_badN _ w2 (w.heap.size + 2) w2.heap.size (by decide) (by omega)) (fun b h1 h2 => setCells_block (by omega) _ _ _)).mono (by omega) (Nat.le_refl _)
      · exact setCells_below (by omega) _ _ _ _ HB.out
    | true =>
      rw [if_neg (by rw [hI]; simp)] at hv
      obtain ⟨hx0, hx2⟩ := (inB_iff9 x1 0 2).1 hI
      obtain ⟨k, hk⟩ : ∃ k : Nat, x1 = k := ⟨x1.toNat, by omega⟩
      have hk3 : k < 3 := by omega
      have e1 : x1.toNat = k := by omega
      rw [e1, hk] at hv
      have HSG : Hid (∀ x ∈ bag, totSegm x ≤ 8 ∧ 0 ≤ x.1 ∧ x.1 ≤ 2) := fun x hx => by have := sgF_ok (hok x hx).1; omega
      have HPK : Hid (putN (dead.set k true) [] bag = killF k bag) := by have h := kill_put (dead := dead) (k := k) (by omega) bag [] (fun x hx => ⟨(hok x hx).2, by have := sgF_ok (hok x hx).1; omega⟩) (by simp; omega); rw [List.nil_append] at h; exact h
      have HDO : Hid (∀ W, Below w.heap.size w W → Calls Try.prog 62 #[.slice da dead.length dcap] W fun e w' => e = .returned (.agg (arr3 dead)) ∧ Below W.heap.size W w') := fun W hW => iDeadOf _ dead _ W B (HRd.out W hW) (Nat.le_trans hB hW.size) h3
      have HCB : Hid (∀ W, Below w.heap.size w W → Calls Try.prog 61 #[.agg (arr3 (dead.set k true)), .slice a bag.length cap] W fun e w' => ∃ N : Array Value, e = .returned (.agg N) ∧ NetP 104 w' W.heap.size (killF k bag) (dead.set k true) N ∧ Below W.heap.size W w') := fun W hW => by have h := iCarriedBy (dead.set k true) bag _ W B (HRb.out W hW) (Nat.le_trans hB hW.size) (by rw [List.length_set]; exact h3) (by omega) (fun x hx => by have := (HSG.out x hx).1; omega) (fun x hx => (HSG.out x hx).2); rw [HPK.out] at h; exact h
      have HDS : Hid ((arr3 dead).setIfInBounds k (.bool true) = arr3 (dead.set k true)) := arr3_set dead h3 k hk3
      have HL3 : Hid ((dead.set k true).length = 3) := by show _ = _; rw [List.length_set]; exact h3
      have HOD : Hid ((arr3 dead).all (·.oneCell') = true) := by show _ = _; unfold arr3; simp [Value.oneCell']
      have HDZ : Hid ((arr3 dead).size = 3) := rfl
      have HDZ2 : Hid ((arr3 (dead.set k true)).size = 3) := rfl
      rw [h3] at HDO a1
      obtain ⟨nb, hnb⟩ : ∃ nb, bag.length = nb := ⟨_, rfl⟩
      rw [hnb] at HCB a0
      obtain ⟨nk, hnk⟩ : ∃ nk, (killF k bag).length = nk := ⟨_, rfl⟩
      have HNK : Hid ((killF k bag).length = nk) := hnk
      generalize killF k bag = KB at *
      generalize dead.set k true = DS at *
      clear hnk hnb hok hI HNF HIB HRb HRd HA2 e1 HSG HPK h60 ht h3
      subst hk
      have hk0 : (0 : Int) ≤ (k : Int) := by omega
      have hk33 : (k : Int) < 3 := by omega
      have HID : Hid ((Try.prog.info? 104).map (·.size) = some (arr3 dead).size) := by show _ = _; rw [HDZ.out]; exact info_dead
      generalize arr3 dead = D at *
      have HID2 : Hid ((Try.prog.info? 104).map (·.size) = some (arr3 DS).toList.length) := by show _ = _; rw [Array.length_toList, HDZ2.out]; exact info_dead
      generalize arr3 DS = D2 at *
      go_wp2_with fail
      refine (HDO.out _ HB.out).mono ?_
      rintro e u1 ⟨rfl, hb⟩
      replace kA := bx_below kA zA hb
      replace zA := Nat.lt_of_lt_of_le zA hb.size
      replace kR := bx_below kR zR hb
      replace fR := bxF fR hb zR
      replace zR := Nat.lt_of_lt_of_le zR hb.size
      replace HB : Hid (Below w.heap.size w u1) := HB.out.trans (hb.mono HB.out.size)
      clear hb
      clear HDO
      have HTH : Hid ((u1.alloc (.cells #[.bool false, .bool false, .bool false] 104)).there u1.heap.size 0 D.size) := bx_there (bx_al _ _ _) (fx_al _ _ _) (by rw [HDZ.out]; rfl)
      have HWN : Hid (Below u1.heap.size u1 ((u1.alloc (.cells #[.bool false, .bool false, .bool false] 104)).setCells u1.heap.size 0 D.toList) ∧ u1.heap.size < ((u1.alloc (.cells #[.bool false, .bool false, .bool false] 104)).setCells u1.heap.size 0 D.toList).heap.size ∧ (∀ o, ((u1.alloc (.cells #[.bool false, .bool false, .bool false] 104)).setCells u1.heap.size 0 D.toList).cell? ⟨u1.heap.size, o, none⟩ = D[o]?) ∧ (∀ o, ((u1.alloc (.cells #[.bool false, .bool false, .bool false] 104)).setCells u1.heap.size 0 D.toList).frozen? ⟨u1.heap.size, o, none⟩ = false)) := ⟨setCells_below (Nat.le_refl _) _ _ _ _ ((Below.refl _ _).alloc (Nat.le_refl _) _), by rw [setCells_size]; simp, bx_setCells (bx_al u1 _ _) (by rw [HDZ.out]; rfl), fx_sets (fx_al _ _ _)⟩
      go_upto_region 7 with (first | (refine wpList_store_mid rfl 104 _ _ rfl _ _ D (by rfl) (by rfl) HTH.out HID.out HOD.out ?_))
      generalize hWW : ((u1.alloc (.cells #[.bool false, .bool false, .bool false] 104)).setCells u1.heap.size 0 D.toList) = u2 at HWN ⊢
      clear hWW HTH
      obtain ⟨hb, zD, kD, fD⟩ := HWN.out
      clear HWN
      obtain ⟨bD, hq⟩ : ∃ q, q = u1.heap.size := ⟨_, rfl⟩
      rw [← hq] at zD kD fD ⊢
      have lAD : w.heap.size < bD := by rw [hq]; exact zA
      have lRD : w.heap.size + 1 < bD := by rw [hq]; exact zR
      have lwD : w.heap.size ≤ bD := by rw [hq]; exact HB.out.size
      clear hq
      replace kA := bx_below kA zA hb
      replace zA := Nat.lt_of_lt_of_le zA hb.size
      replace kR := bx_below kR zR hb
      replace fR := bxF fR hb zR
      replace zR := Nat.lt_of_lt_of_le zR hb.size
      replace HB : Hid (Below w.heap.size w u2) := HB.out.trans (hb.mono HB.out.size)
      clear hb
      have zD3 : k < D.size := by rw [HDZ.out]; exact hk3
      have hDk : (D[k]?).isSome = true := by rw [Array.getElem?_eq_getElem zD3]; rfl
      obtain ⟨old, hold⟩ := Option.isSome_iff_exists.1 hDk
      clear hDk
      go_upto_region 8 with fail
      have kD2 : ∀ o, (u2.setCell ⟨bD, k, none⟩ (.bool true)).cell? ⟨bD, o, none⟩ = D2[o]? := by have h := bx_put kD (k := k) (v := .bool true) zD3; rw [HDS.out] at h; exact h
      have kA2 : ∀ o, (u2.setCell ⟨bD, k, none⟩ (.bool true)).cell? ⟨w.heap.size, o, none⟩ = A[o]? := bx_setC kA (by omega)
      have kR2 : ∀ o, (u2.setCell ⟨bD, k, none⟩ (.bool true)).cell? ⟨w.heap.size + 1, o, none⟩ = (#[.int .i64 0, .int .i64 0, .int .i64 0, .bool false, .bool false, .bool false, .int .i64 0, .int .i64 0, .int .i64 0, .int .i64 0, .int .i64 0, .int .i64 0, .slice none 0 0, .slice none 0 0, .slice none 0 0] : Array Value)[o]? := bx_setC kR (by omega)
      have fR2 : ∀ o, (u2.setCell ⟨bD, k, none⟩ (.bool true)).frozen? ⟨w.heap.size + 1, o, none⟩ = false := fx_setC fR
      have HB2 : Hid (Below w.heap.size w (u2.setCell ⟨bD, k, none⟩ (.bool true))) := Below.setCell (p := ⟨bD, k, none⟩) HB.out (show w.heap.size ≤ bD by omega) _
      have hz2 : (u2.setCell ⟨bD, k, none⟩ (.bool true)).heap.size = u2.heap.size := by simp
      generalize hWW : u2.setCell ⟨bD, k, none⟩ (.bool true) = u3 at kD2 kA2 kR2 fR2 HB2 hz2 ⊢
      clear hWW kD kA kR fR HB hold
      have kA := kA2
      have kR := kR2
      have fR := fR2
      have HB := HB2
      have zA3 : w.heap.size < u3.heap.size := by omega
      have zR3 : w.heap.size + 1 < u3.heap.size := by omega
      clear kA2 kR2 fR2 HB2 hz2 fD
      go_wp2_with (refine wpList_load_mid rfl 104 _ rfl _ _ (by rfl) D2.toList _ (bx_range kD2) Try.underlying104 rfl HID2.out ?_)
      refine (HCB.out _ HB.out).mono ?_
      rintro e u4 ⟨N, rfl, hnp, hb⟩
      have hz3 := hb.size
      have HO : Hid (Own u4 u3.heap.size u4.heap.size (shNR 104) (0, zSg, (KB, DS, ()), ()) (.int .i64 0 :: (zSc ++ N.toList))) := own_okN hnp hb.size
      obtain ⟨m5, a5, a6, c5, c6, e5, -⟩ := hnp
      rw [HL3.out, HNK.out] at e5
      subst e5
      replace kR := bx_below kR zR3 hb
      replace fR := bxF fR hb zR3
      replace HB : Hid (Below w.heap.size w u4) := HB.out.trans (hb.mono HB.out.size)
      clear hb HCB kA kD2
      obtain ⟨N15, hN⟩ : ∃ N : Array Value, N = #[.int .i64 0, .int .i64 0, .int .i64 0, .bool false, .bool false, .bool false, .int .i64 0, .int .i64 0, .int .i64 0, .int .i64 0, .int .i64 0, .int .i64 0, .slice none 0 0, .slice a5 nk c5, .slice a6 3 c6] := ⟨_, rfl⟩
      have HN15 : Hid _ := hN
      have hNz : N15.size = 15 := by rw [hN]; rfl
      have HNZ15 : Hid (N15.size = 15) := hNz
      have HIN15 : Hid ((Try.prog.info? 50).map (·.size) = some N15.size) := by show _ = _; rw [hNz]; exact info_NR
      have HONE15 : Hid (N15.all (·.oneCell') = true) := by show _ = _; rw [hN]; simp [Value.oneCell']
      clear hN hNz
      have HTH : Hid (u4.there (w.heap.size + 1) 0 N15.size) := bx_there kR fR (by rw [HNZ15.out]; rfl)
      have HKR : Hid (∀ o, (u4.setCells (w.heap.size + 1) 0 N15.toList).cell? ⟨w.heap.size + 1, o, none⟩ = N15[o]?) := bx_setCells kR (by rw [HNZ15.out]; rfl)
      go_wp2_with (first | (refine wpList_store_mid rfl 50 _ _ rfl _ _ N15 (by rfl) (by rw [HN15.out]; rfl) HTH.out HIN15.out HONE15.out ?_))
      refine bodyPost_ret (results_box Try.results22 _ _ _ N15 _ (by rfl) HKR.out Try.underlying50 rfl (by exact HIN15.out)) rfl ⟨N15, rfl, ?_, ?_⟩
      · rw [setCells_size, HN15.out]
        exact (Own.keep (by rw [hv]; exact HO.out) (fun b h1 h2 => setCells_block (by omega) _ _ _)).mono (by omega) (Nat.le_refl _)
      · exact setCells_below (by omega) _ _ _ _ HB.out
  · rw [if_pos hF] at hv
    have h1 : (netF bag dead != 0) = true := by simp [hF]
    have h2 : (netF bag dead == 0) = false := by simp [hF]
    clear HNF HIB
    generalize netF bag dead = q at *
    obtain ⟨N15, hN⟩ : ∃ N : Array Value, N = #[.int .i64 q, .int .i64 0, .int .i64 0, .bool false, .bool false, .bool false, .int .i64 0, .int .i64 0, .int .i64 0, .int .i64 0, .int .i64 0, .int .i64 0, .slice none 0 0, .slice none 0 0, .slice none 0 0] := ⟨_, rfl⟩
    have HN15 : Hid _ := hN
    have hNz : N15.size = 15 := by rw [hN]; rfl
    have HNZ15 : Hid (N15.size = 15) := hNz
    have HIN15 : Hid ((Try.prog.info? 50).map (·.size) = some N15.size) := by show _ = _; rw [hNz]; exact info_NR
    have HONE15 : Hid (N15.all (·.oneCell') = true) := by show _ = _; rw [hN]; simp [Value.oneCell']
    clear hN hNz
    have HTH : Hid (w2.there (w.heap.size + 1) 0 N15.size) := bx_there kR fR (by rw [HNZ15.out]; rfl)
    have HKR : Hid (∀ o, (w2.setCells (w.heap.size + 1) 0 N15.toList).cell? ⟨w.heap.size + 1, o, none⟩ = N15[o]?) := bx_setCells kR (by rw [HNZ15.out]; rfl)
    go_wp2_with (first | (refine wpList_store_mid rfl 50 _ _ rfl _ _ N15 (by rfl) (by rw [HN15.out]; rfl) HTH.out HIN15.out HONE15.out ?_))
    refine bodyPost_ret (results_box Try.results22 _ _ _ N15 _ (by rfl) HKR.out Try.underlying50 rfl (by exact HIN15.out)) rfl ⟨N15, rfl, ?_, ?_⟩
    · rw [setCells_size, HN15.out]
      exact (Own.keep (by rw [hv]; exact own_badN _ w2 (w.heap.size + 2) w2.heap.size HWF.out (by omega)) (fun b h1 h2 => setCells_block (by omega) _ _ _)).mono (by omega) (Nat.le_refl _)
    · exact setCells_below (by omega) _ _ _ _ HB.out
end Go.Proofs.Ytebgibjokljlbaa

/- The model's l12Kill and KillPath; nothing that was in memory turns; the condition is that there are at most a million parts. Written by mknet12.py. -/
namespace Go.Proofs.Ytebgibjokljlbaa
open Go.RowKit
set_option linter.unusedVariables false
set_option maxRecDepth 8000
theorem keepT (x : Int) (T : List El3) : (T.filter fun y => y.1.1 != x).map (·.1) = killF x (T.map (·.1)) := by
  unfold killF
  rw [List.filter_map]; rfl
theorem filt_take {x : Int} {T : List El3} {k : Nat} (hk : k < T.length) : (T.take (k + 1)).filter (fun y => y.1.1 != x) = (T.take k).filter (fun y => y.1.1 != x) ++ (if T[k].1.1 != x then [T[k]] else []) := by
  rw [List.take_succ_eq_append_getElem hk, List.filter_append]
  congr 1
  rw [List.filter_cons]
  split <;> simp_all
theorem own_bsome {w : World} {lo hi : Nat} {t : TypeId} {l : List Bool} {a : Option Addr} {n c : Nat} (h : Own w lo hi (bls t) l [.slice a n c]) (hl : 0 < l.length) : ∃ g, a = some ⟨g, 0, none⟩ := by
  obtain ⟨bs, h1, -⟩ := h
  rcases h1 with ⟨_, _, e⟩ | ⟨g, cap, cur, F, e1, -⟩
  · rw [e] at hl; simp at hl
  · simp only [List.cons.injEq, Value.slice.injEq, and_true] at e1
    exact ⟨g, e1.1⟩
set_option maxHeartbeats 8000000 in
theorem sL12Kill (dead : List Bool) (bag : List DSegm) (k : Nat) (p : Nat) (va da : Option Addr) (vc dc : Nat) (w : World) (dlo lo hi : Nat) (kQ : ∀ o, w.cell? ⟨p, o, none⟩ = (#[.slice va bag.length vc, .slice da 3 dc] : Array Value)[o]?) (tQ : ∃ cur, w.heap[p]? = some (.cells cur 44 (0, 0))) (zQ : p < w.heap.size)
    (xd : Own w dlo lo (bls 4) dead [.slice da 3 dc]) (xo : Own w lo hi shSegms bag [.slice va bag.length vc]) (l1 : lo ≤ hi) (l2 : hi ≤ p) (l3 : dlo ≤ lo) (h3 : dead.length = 3) (h60 : bag.length ≤ 60) (hk3 : k < 3) :
    Calls Try.prog 99 #[.pointer (some ⟨p, 0, none⟩), .int .i64 k] w fun e w' => ∃ va' vc', e = .returned (.tuple #[]) ∧ (∀ o, w'.cell? ⟨p, o, none⟩ = (#[.slice va' (killF k bag).length vc', .slice da 3 dc] : Array Value)[o]?) ∧ p < w'.heap.size ∧ Own w' dlo lo (bls 4) (dead.set k true) [.slice da 3 dc] ∧ Own w' lo w'.heap.size shSegms (killF k bag) [.slice va' (killF k bag).length vc'] ∧ Below dlo w w' := by
  obtain ⟨db, hdb⟩ := own_bsome xd (by omega)
  subst hdb
  obtain ⟨dsl, dfz, dgl, dgh, -, -⟩ := hOwnSlot xd
  obtain ⟨T, hT, hR⟩ := Own.rowT xo
  have hTl : T.length = bag.length := by rw [← hT]; simp
  obtain ⟨n, hn⟩ : ∃ n, bag.length = n := ⟨_, rfl⟩
  have HN : Hid (T.length = n) := by rw [hTl]; exact hn
  rw [hn] at kQ h60
  have HFIN : Hid (∀ (W : World) (v : Value) (va' : Option Addr) (m' vc' : Nat), v = .slice va' m' vc' → m' = (T.filter fun y => y.1.1 != (k : Int)).length → Below w.heap.size w W → W.ownsRow w.heap.size 48 12 v m' ((T.filter fun y => y.1.1 != (k : Int)).map (·.2.2)).flatten → ∃ old, W.cell? ⟨db, k, none⟩ = some old ∧ W.frozen? ⟨db, k, none⟩ = false ∧ (∀ o, W.frozen? ⟨p, o, none⟩ = false) ∧ m' = (killF k bag).length ∧ (∀ (W' : World), W' = (W.setCell ⟨p, 0, none⟩ v).setCell ⟨db, k, none⟩ (.bool true) → (∀ o, W'.cell? ⟨p, o, none⟩ = (#[.slice va' m' vc', .slice (some ⟨db, 0, none⟩) 3 dc] : Array Value)[o]?) ∧ p < W'.heap.size ∧ Own W' dlo lo (bls 4) (dead.set k true) [.slice (some ⟨db, 0, none⟩) 3 dc] ∧ Own W' lo W'.heap.size shSegms (killF k bag) [.slice va' m' vc'] ∧ Below dlo w W')) := by
    intro W v va' m' vc' ev em hW ho
    subst ev
    obtain ⟨old, hold⟩ := dsl k (by show k < 3 * 1; omega)
    have hwz := hW.size
    have tQ2 := ty_below tQ (hW.block p zQ)
    have hm2 : m' = (killF k bag).length := by rw [em, ← hT, ← keepT, List.length_map]
    refine ⟨old, (hW.cell (p := ⟨db, k, none⟩) (show db < _ by omega)).trans hold, (hW.frozen (p := ⟨db, k, none⟩) (show db < _ by omega)).trans (dfz k), ty_frz tQ2, hm2, ?_⟩
    intro W' e
    subst e
    have hpd : p ≠ db := by omega
    have hz : ((W.setCell ⟨p, 0, none⟩ (.slice va' m' vc')).setCell ⟨db, k, none⟩ (.bool true)).heap.size = W.heap.size := by simp
    have hk1 : ∀ b, b ≠ p → b ≠ db → ((W.setCell ⟨p, 0, none⟩ (.slice va' m' vc')).setCell ⟨db, k, none⟩ (.bool true)).heap[b]? = W.heap[b]? := fun b h1 h2 => by rw [Below.heap_setCell _ _ _ _ (by dsimp only; exact h2), Below.heap_setCell _ _ _ _ (by dsimp only; exact h1)]
    refine ⟨?_, by rw [hz]; omega, ?_, ?_, ?_⟩
    · have h1 := bx_put (bx_below kQ zQ hW) (k := 0) (v := .slice va' m' vc') (by simp)
      simp only [List.setIfInBounds_toArray, List.set_cons_zero] at h1
      exact bx_off h1 hpd
    · have x1 : Own W dlo lo (bls 4) dead [.slice (some ⟨db, 0, none⟩) 3 dc] := Own.below xd (by omega) hW
      have x2 : Own (W.setCell ⟨p, 0, none⟩ (.slice va' m' vc')) dlo lo (bls 4) dead [.slice (some ⟨db, 0, none⟩) 3 dc] := Own.keep x1 (fun b _ _ => Below.heap_setCell _ _ _ _ (by dsimp only; omega))
      have x3 := (Own.stored (k := k) x2 (by omega) (hOwnBool _ lo lo true) (Nat.le_refl _)).1
      have e1 : setRow (W.setCell ⟨p, 0, none⟩ (.slice va' m' vc')) db (k * Sh.bool.sz) [.bool true] = (W.setCell ⟨p, 0, none⟩ (.slice va' m' vc')).setCell ⟨db, k, none⟩ (.bool true) := by show World.setCell _ ⟨db, k * 1, none⟩ _ = _; rw [Nat.mul_one]
      rw [e1] at x3
      exact x3
    · rw [← hT, ← keepT]
      refine RowT.to (RowT.sub hR List.filter_sublist (base := w.heap.size) ?_ ?_ ?_ (Nat.le_refl _) (by omega) (by rw [hz]; omega) ?_)
      · rw [← em]
        exact ownsRow_below ho (fun b e => hk1 b (by have := (ho.lt b e).1; omega) (by have := (ho.lt b e).1; omega))
      · intro b e; rw [hz]; exact (ho.lt b e).2
      · intro b h1 h2 _; rw [hk1 b (by omega) (by omega)]; exact hW.block b (by omega)
      · intro b e h; have := (ho.lt b e).1; omega
    · exact Below.setCell (p := ⟨db, k, none⟩) (Below.setCell (p := ⟨p, 0, none⟩) (hW.mono (by omega)) (show dlo ≤ p by omega) _) (show dlo ≤ db by omega) _
  have HRT : Hid (∀ W, Below w.heap.size w W → ∀ i (hi : i < T.length), (∃ g, va = some ⟨g, 0, none⟩ ∧ W.rangeAt g (i * 12) T[i].2.2) ∧ T[i].2.2.length = 12 ∧ T[i].2.2[0]? = some (.int .i64 T[i].1.1) ∧ (∀ u ∈ T[i].2.2, u.oneCell' = true)) := fun W hW i hi => by
    rw [hn] at hR
    obtain ⟨g, eg, hg1, hg2⟩ := hR.some' (by omega)
    subst eg
    exact ⟨⟨g, rfl, range_below (hR.range hi) hW (by omega)⟩, hR.len _ (List.mem_map.2 ⟨_, List.getElem_mem hi, rfl⟩), ow_path (hR.el _ (List.getElem_mem hi)), ow_one (hR.el _ (List.getElem_mem hi))⟩
  have HKQ : Hid (∀ W, Below w.heap.size w W → ∀ o, W.cell? ⟨p, o, none⟩ = (#[.slice va n vc, .slice (some ⟨db, 0, none⟩) 3 dc] : Array Value)[o]?) := fun W hW => bx_below kQ zQ hW
  have hk0 : (0 : Int) ≤ (k : Int) := by omega
  have hk33 : (k : Int) < 3 := by omega
  have HM0 : Hid ((w.alloc (.cells #[] 48)).ownsRow w.heap.size 48 12 (.slice (some ⟨w.heap.size, 0, none⟩) 0 0) 0 []) := World.ownsRow_made w #[] 0 (Nat.le_refl _) (by decide) rfl
  have HB0 : Hid (Below w.heap.size w (w.alloc (.cells #[] 48))) := (Below.refl _ _).alloc (Nat.le_refl _) _
  obtain ⟨KK, hKK⟩ : ∃ l, l = killF k bag := ⟨_, rfl⟩
  rw [← hKK] at HFIN ⊢
  clear hKK hR hT hTl hn xd xo tQ kQ dsl dfz
  go_enter Try.func99, Try.ntmps99
  go_upto_region 2 with fail
  generalize hW0 : w.alloc (.cells #[] 48) = W0 at HM0 HB0 ⊢
  clear hW0
  go_loopw [4, 5] (fun q iv wr => ∃ (i : Nat) (va' : Option Addr) (m' vc' : Nat), i ≤ n ∧ iv = .int .i64 i ∧ q = .slice va' m' vc' ∧ Hid (m' = ((T.take i).filter fun y => y.1.1 != (k : Int)).length) ∧ Hid (wr.ownsRow w.heap.size 48 12 (.slice va' m' vc') m' (((T.take i).filter fun y => y.1.1 != (k : Int)).map (·.2.2)).flatten) ∧ Hid (Below w.heap.size w wr)) (fun _ iv _ => n - (intOf iv).toNat)
  case atStart => exact ⟨0, _, 0, 0, Nat.zero_le _, rfl, rfl, (by simp : 0 = ((T.take 0).filter fun y => y.1.1 != (k : Int)).length), by simpa using HM0, HB0⟩
  case round =>
    clear HM0 HB0
    obtain ⟨i, va', m', vc', hi, rfl, rfl, HM, HO, HB⟩ := hrel
    have j0 := HKQ.out wr HB.out
    by_cases hlt : i < n
    · have hil : i < T.length := by have := HN.out; omega
      obtain ⟨⟨g, hg, hrg⟩, hlen, hc0, hone⟩ := HRT.out wr HB.out i hil
      subst hg
      have hcp : wr.cell? ⟨g, i * 12, none⟩ = some (.int .i64 T[i].1.1) := by have := hrg 0 _ hc0; simpa using this
      have HFT : Hid _ := filt_take (x := (k : Int)) hil
      have HIX : Hid ((Try.prog.info? 48).map (·.size) = some T[i].2.2.length) := by show _ = _; rw [hlen]; exact info_SG12
      have HG : Hid (wr.rangeAt g (i * 12) T[i].2.2) := hrg
      have HONE : Hid _ := hone
      have hm60 : m' ≤ 60 := by have h := HM.out; have h2 := List.length_filter_le (fun y : El3 => y.1.1 != (k : Int)) (T.take i); simp at h2; omega
      clear hrg hc0 hone
      generalize T[i] = y at *
      obtain ⟨sx, sb, sc⟩ := y
      simp only at hcp HFT HIX HG HONE hlen
      have hi0 : (0 : Int) ≤ (i : Int) := by omega
      have hin : (i : Int) < (n : Int) := by omega
      by_cases hp : sx.1 = k
      · have hp' : ((k : Int) != (k : Int)) = false := by simp
        have HF2 : Hid (((T.take (i + 1)).filter fun y => y.1.1 != (k : Int)) = ((T.take i).filter fun y => y.1.1 != (k : Int))) := by have h := HFT.out; rw [if_neg (by simp [hp]), List.append_nil] at h; exact h
        rw [hp] at hcp
        clear HFT HG HIX HONE
        go_wp2_with fail
        go_roundw
        case rel => exact ⟨i + 1, va', m', vc', by omega, by go_num, rfl, by rw [HF2.out]; exact HM, by rw [HF2.out]; exact HO, HB⟩
        case measure => simp [intOf]; omega
      · have hp' : (sx.1 != (k : Int)) = true := by simp [hp]
        have HF2 : Hid (((T.take (i + 1)).filter fun y => y.1.1 != (k : Int)) = ((T.take i).filter fun y => y.1.1 != (k : Int)) ++ [(sx, sb, sc)]) := by have h := HFT.out; rw [if_pos hp'] at h; exact h
        clear HFT
        obtain ⟨e0, e1, e2, e3, e4, e5, e6, e7, e8, e9, e10, e11, hsc⟩ := lst12 hlen
        subst hsc
        have HNW : Hid (∀ q', (some ⟨wr.heap.size, 0, none⟩ : Option Addr) = some q' → ∀ j u, [e0, e1, e2, e3, e4, e5, e6, e7, e8, e9, e10, e11][j]? = some u → (wr.alloc (.cells #[e0, e1, e2, e3, e4, e5, e6, e7, e8, e9, e10, e11] 48)).cell? (q'.add j) = some u) := fun q' hq j u hj => by
          simp only [Option.some.injEq] at hq
          subst hq
          exact cells_new wr [e0, e1, e2, e3, e4, e5, e6, e7, e8, e9, e10, e11] _ j u hj
        have HO2 : Hid ((wr.alloc (.cells #[e0, e1, e2, e3, e4, e5, e6, e7, e8, e9, e10, e11] 48)).ownsRow w.heap.size 48 12 (.slice va' m' vc') m' (((T.take i).filter fun y => y.1.1 != (k : Int)).map (·.2.2)).flatten) := ownsRow_below HO.out (fun b e => Below.heap_alloc _ _ _ (HO.out.lt b e).2)
        have hzw := HB.out.size
        have hza : w.heap.size ≤ (wr.alloc (.cells #[e0, e1, e2, e3, e4, e5, e6, e7, e8, e9, e10, e11] 48)).heap.size := by simp; omega
        go_wp2_with (first | (refine wpList_load_mid rfl 48 _ rfl _ _ (by rfl) [e0, e1, e2, e3, e4, e5, e6, e7, e8, e9, e10, e11] _ HG.out Try.underlying48 rfl HIX.out ?_) | (at_builtin; refine app_row (wr.alloc (.cells #[e0, e1, e2, e3, e4, e5, e6, e7, e8, e9, e10, e11] 48)) rfl _ _ rfl w.heap.size (.slice va' m' vc') m' _ (by rfl) HO2.out (some ⟨wr.heap.size, 0, none⟩) 1 1 [e0, e1, e2, e3, e4, e5, e6, e7, e8, e9, e10, e11] (by rfl) (by simp) rfl HNW.out HONE.out (by omega) hza ?_; intro a3 c3 w3 ho3 hb3 hg3))
        have HB3 : Hid (Below w.heap.size w w3) := (HB.out.alloc HB.out.size _).trans hb3
        have ho4 : w3.ownsRow w.heap.size 48 12 (.slice a3 (m' + 1) c3) (m' + 1) (((T.take (i + 1)).filter fun y => y.1.1 != (k : Int)).map (·.2.2)).flatten := by rw [HF2.out, List.map_append, List.flatten_append]; simpa using ho3
        have HO3 : Hid _ := ho4
        have HM3 : Hid (m' + 1 = ((T.take (i + 1)).filter fun y => y.1.1 != (k : Int)).length) := by rw [HF2.out, List.length_append]; have h := HM.out; simp; exact h
        go_roundw
        case rel => exact ⟨i + 1, a3, m' + 1, c3, by omega, by go_num, rfl, HM3, HO3, HB3⟩
        case measure => simp [intOf]; omega
    · obtain rfl : i = n := by omega
      have hTi : T.take i = T := by rw [← HN.out, List.take_length]
      rw [hTi] at HM HO
      obtain ⟨old, hold, hfz, hfp, hmm, HEND⟩ := HFIN.out wr _ va' m' vc' rfl HM.out HB.out HO.out
      have HMM : Hid (m' = KK.length) := hmm
      clear hmm
      have HE := HEND _ rfl
      have HE2 : Hid _ := HE
      have hdp : db < p := by omega
      clear HE HEND HFIN HRT HO HM hTi
      have hold2 : (wr.setCell ⟨p, 0, none⟩ (.slice va' m' vc')).cell? ⟨db, k, none⟩ = some old := by rw [World.cell?_of_block (Below.heap_setCell _ _ _ _ (by dsimp only; omega))]; exact hold
      have hfz2 : (wr.setCell ⟨p, 0, none⟩ (.slice va' m' vc')).frozen? ⟨db, k, none⟩ = false := by rw [World.frozen?_setCell]; exact hfz
      have j1 := bx_put j0 (k := 0) (v := .slice va' m' vc') (by simp)
      simp only [List.setIfInBounds_toArray, List.set_cons_zero] at j1
      go_upto_region 7 with fail
      clear j0 hold hfz hfp
      go_wp2_with fail
      have h := HE2.out
      rw [HMM.out] at h
      exact ⟨rfl, .tuple #[], by simp [results, Try.results99], va', vc', rfl, by rw [HMM.out]; exact h⟩
end Go.Proofs.Ytebgibjokljlbaa
