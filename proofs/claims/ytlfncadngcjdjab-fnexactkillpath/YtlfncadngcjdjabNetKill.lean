/- KillPath by the program; nothing that was in memory turns; the condition is that there are at most a million parts. Written by mknet11.py. -/
import Derived.Test.YtlfncadngcjdjabRows
import Derived.Test.YtlfncadngcjdjabBase
import Derived.Test.YtlfncadngcjdjabBytes
import Derived.Test.YtlfncadngcjdjabMem
import Derived.Test.YtlfncadngcjdjabMemOpen
import Derived.Test.YtlfncadngcjdjabMemRow
import Derived.Test.YtlfncadngcjdjabHBase
import Derived.Test.YtlfncadngcjdjabHMark
import Derived.Test.YtlfncadngcjdjabBox
import Derived.Test.YtlfncadngcjdjabSubBox
import Derived.Test.YtlfncadngcjdjabAgg
import Derived.Test.YtlfncadngcjdjabElMark
import Derived.Test.YtlfncadngcjdjabMSegs
import Derived.Test.YtlfncadngcjdjabRegionU
import Derived.Test.YtlfncadngcjdjabHSegs
import Derived.Test.YtlfncadngcjdjabAppBytes
import Derived.Test.YtlfncadngcjdjabApp
import Derived.Test.YtlfncadngcjdjabMemApp
import Derived.Test.YtlfncadngcjdjabSeg
import Derived.Test.YtlfncadngcjdjabSegFS
import Derived.Test.YtlfncadngcjdjabSegFI
import Derived.Test.YtlfncadngcjdjabStrip
import Derived.Test.YtlfncadngcjdjabRegS
import Derived.Test.YtlfncadngcjdjabHBool
import Derived.Test.YtlfncadngcjdjabHSegT
import Derived.Test.YtlfncadngcjdjabNetSeg
import Derived.Test.YtlfncadngcjdjabNetDef
import Derived.Test.YtlfncadngcjdjabNetSpF
import Derived.Test.YtlfncadngcjdjabNetImF
import Derived.Test.YtlfncadngcjdjabHNet
import Derived.Test.YtlfncadngcjdjabSegR
import Derived.Test.YtlfncadngcjdjabNetBx
import Derived.Test.YtlfncadngcjdjabNetR
import Derived.Test.YtlfncadngcjdjabNetImC
import Derived.Test.YtlfncadngcjdjabNetSpC
import Derived.Test.YtlfncadngcjdjabRegionQ
import Derived.Test.YtlfncadngcjdjabNetAsk
import Derived.Test.YtlfncadngcjdjabNetDef2
import Derived.Deep.RegionHeld3
import Derived.Deep.DeepCutAuto
import Derived.Deep.DeepMust
import Derived.Deep.MidRow
namespace Go.Proofs.Ytlfncadngcjdjab
open Go.RowKit
set_option linter.unusedVariables false
set_option maxRecDepth 8000
def killF (x : Int) (l : List DSegm) : List DSegm := l.filter fun s => s.1 != x
def kilV (g : DNet) (x : Int) : DNR := if netF g.1 g.2.1 ≠ 0 then badN (netF g.1 g.2.1) else if inB9 x 0 2 = false then badN 3 else (0, zSg, (killF x g.1, g.2.1.set x.toNat true, ()), ())
theorem tot_filter (p : DSegm → Bool) : ∀ (l : List DSegm), totSegms (l.filter p) ≤ totSegms l
  | [] => Nat.le_refl _
  | x :: r => by
    have ih := tot_filter p r
    have e2 : totSegms (x :: r) = totSegms [x] + totSegms r := totSegms_app [x] r
    rw [List.filter_cons]
    split
    · have e1 : totSegms (x :: r.filter p) = totSegms [x] + totSegms (r.filter p) := totSegms_app [x] _
      omega
    · omega
theorem kilV_tot {g : DNet} (x : Int) (h : totNet g ≤ 1048576) : totNR (kilV g x) ≤ 1048576 := by
  unfold kilV
  split
  · rw [tot_badN]; omega
  · split
    · rw [tot_badN]; omega
    · unfold totNet at h
      have := tot_filter (fun s => s.1 != x) g.1
      show 0 + (totSegms (killF x g.1) + (g.2.1.set x.toNat true).length) ≤ _
      rw [List.length_set]
      unfold killF
      omega
/-- What is put behind where one path more is dead: all but its own. -/
theorem kill_put {dead : List Bool} {k : Nat} (hk : k < dead.length) : ∀ (l acc : List DSegm), (∀ x ∈ l, deadAt dead x = false ∧ 0 ≤ x.1 ∧ x.1 < dead.length) → acc.length + l.length ≤ 60 → putN (dead.set k true) acc l = acc ++ killF k l
  | [], acc, _, _ => by simp [putN, killF]
  | x :: r, acc, h, hl => by
    have hx := h x (by simp)
    simp only [List.length_cons] at hl
    have e : putN (dead.set k true) acc (x :: r) = putN (dead.set k true) (put1 (dead.set k true) acc x) r := rfl
    have hd : deadAt (dead.set k true) x = decide (x.1 = k) := by
      have h0 := hx.1
      unfold deadAt at h0 ⊢
      rw [List.getD_eq_getElem?_getD] at h0 ⊢
      rw [List.getElem?_set]
      by_cases e : x.1 = k
      · have e1 : x.1.toNat = k := by omega
        rw [e1, if_pos rfl, if_pos hk]
        simp [e]
      · have e1 : ¬ k = x.1.toNat := by omega
        rw [if_neg e1, h0]
        simp [e]
    have hr : ∀ y ∈ r, deadAt dead y = false ∧ 0 ≤ y.1 ∧ y.1 < dead.length := fun y hy => h y (List.mem_cons_of_mem _ hy)
    rw [e]
    by_cases e : x.1 = k
    · have e1 : put1 (dead.set k true) acc x = acc := by unfold put1; rw [if_neg (by rw [hd]; simp [e])]
      rw [e1, kill_put hk r acc hr (by omega)]
      congr 1
      unfold killF
      rw [List.filter_cons]
      simp [e]
    · have e1 : put1 (dead.set k true) acc x = acc ++ [x] := by unfold put1; rw [if_pos ⟨by rw [hd]; simp [e], by omega⟩]
      rw [e1, kill_put hk r (acc ++ [x]) hr (by simp; omega)]
      unfold killF
      rw [List.filter_cons]
      simp [e]
theorem arr3_set (l : List Bool) (h : l.length = 3) (k : Nat) (hk : k < 3) : (arr3 l).setIfInBounds k (.bool true) = arr3 (l.set k true) := by
  match l, h with
  | [a, b, c], _ =>
    match k, hk with
    | 0, _ => rfl
    | 1, _ => rfl
    | 2, _ => rfl
set_option maxHeartbeats 8000000 in
theorem iKillPathA (x0 : DNet) (A : Array Value) (x1 : Int) (w : World) (B : Nat) (hr : shNet.Rd w B x0 A.toList) (hT : totNet x0 ≤ 1048576) (hB : B ≤ w.heap.size) :
    Calls Try.prog 21 #[.agg A, .int .i64 x1] w fun e w' => ∃ N : Array Value, e = .returned (.agg N) ∧ Own w' w.heap.size w'.heap.size (shNR 65) (kilV x0 x1) N.toList ∧ Below w.heap.size w w' := by
  obtain ⟨bag, dead, ⟨⟩⟩ := x0
  obtain ⟨a, cap, da, dcap, eA, rb, rdd⟩ := rd_Net hr
  have a0 : A[0]? = some (.slice a bag.length cap) := get_of eA 0
  have a1 : A[1]? = some (.slice da dead.length dcap) := get_of eA 1
  have HRb : Hid (∀ W, Below w.heap.size w W → shSegms.Rd W B bag [.slice a bag.length cap]) := fun W hW => Sh.Rd.below rb hB hW
  have HRd : Hid (∀ W, Below w.heap.size w W → (bls 4).Rd W B dead [.slice da dead.length dcap]) := fun W hW => Sh.Rd.below rdd hB hW
  have eA2 := arr_of eA
  have HA2 : Hid (A = #[.slice a bag.length cap, .slice da dead.length dcap]) := eA2
  have HIA : Hid ((Try.prog.info? 32).map (·.size) = some A.toList.length) := by show _ = _; rw [eA]; exact info_NT
  have ht : totSegms bag + dead.length ≤ 1048576 := hT
  have HNF : Hid (∀ W, Below w.heap.size w W → Calls Try.prog 47 #[.agg A] W fun e w' => e = .returned (.int .i64 (netF bag dead)) ∧ Below W.heap.size W w') := fun W hW => by rw [HA2.out]; exact iNetFault _ bag dead _ _ W B (HRb.out W hW) (HRd.out W hW) (Nat.le_trans hB hW.size)
  have HIB : Hid (∀ W, Calls Try.prog 44 #[.int .i64 x1, .int .i64 0, .int .i64 2] W fun e w' => e = .returned (.bool (inB9 x1 0 2)) ∧ w' = W) := fun W => iInB9 x1 0 2 W
  obtain ⟨V, hV⟩ : ∃ V, V = kilV (bag, dead, ()) x1 := ⟨_, rfl⟩
  rw [← hV]
  have HV : Hid (V = if netF bag dead ≠ 0 then badN (netF bag dead) else if inB9 x1 0 2 = false then badN 3 else (0, zSg, (killF x1 bag, dead.set x1.toNat true, ()), ())) := hV
  have HWF : Hid _ := netF_wf bag dead
  clear hV eA eA2 rb rdd hr hT
  have HWA : Hid (Below w.heap.size w ((w.alloc (.cells A 32)).alloc (.cells #[.int .i64 0, .int .i64 0, .int .i64 0, .bool false, .bool false, .bool false, .int .i64 0, .int .i64 0, .int .i64 0, .int .i64 0, .int .i64 0, .int .i64 0, .slice none 0 0, .slice none 0 0, .slice none 0 0] 34)) ∧ ((w.alloc (.cells A 32)).alloc (.cells #[.int .i64 0, .int .i64 0, .int .i64 0, .bool false, .bool false, .bool false, .int .i64 0, .int .i64 0, .int .i64 0, .int .i64 0, .int .i64 0, .int .i64 0, .slice none 0 0, .slice none 0 0, .slice none 0 0] 34)).heap.size = w.heap.size + 2 ∧ (∀ o, ((w.alloc (.cells A 32)).alloc (.cells #[.int .i64 0, .int .i64 0, .int .i64 0, .bool false, .bool false, .bool false, .int .i64 0, .int .i64 0, .int .i64 0, .int .i64 0, .int .i64 0, .int .i64 0, .slice none 0 0, .slice none 0 0, .slice none 0 0] 34)).cell? ⟨w.heap.size, o, none⟩ = (A : Array Value)[o]?) ∧ (∀ o, ((w.alloc (.cells A 32)).alloc (.cells #[.int .i64 0, .int .i64 0, .int .i64 0, .bool false, .bool false, .bool false, .int .i64 0, .int .i64 0, .int .i64 0, .int .i64 0, .int .i64 0, .int .i64 0, .slice none 0 0, .slice none 0 0, .slice none 0 0] 34)).cell? ⟨w.heap.size + 1, o, none⟩ = (#[.int .i64 0, .int .i64 0, .int .i64 0, .bool false, .bool false, .bool false, .int .i64 0, .int .i64 0, .int .i64 0, .int .i64 0, .int .i64 0, .int .i64 0, .slice none 0 0, .slice none 0 0, .slice none 0 0] : Array Value)[o]?) ∧ (∀ o, ((w.alloc (.cells A 32)).alloc (.cells #[.int .i64 0, .int .i64 0, .int .i64 0, .bool false, .bool false, .bool false, .int .i64 0, .int .i64 0, .int .i64 0, .int .i64 0, .int .i64 0, .int .i64 0, .slice none 0 0, .slice none 0 0, .slice none 0 0] 34)).frozen? ⟨w.heap.size + 1, o, none⟩ = false)) := ⟨(((Below.refl _ _).alloc (Nat.le_refl _) _).alloc (by simp) _), by simp, fun o => by simp [go_sem], fun o => by simp [go_sem], fun o => by simp [go_sem]⟩
  go_enter Try.func21, Try.ntmps21
  go_upto_region 1 with fail
  generalize hWW : ((w.alloc (.cells A 32)).alloc (.cells #[.int .i64 0, .int .i64 0, .int .i64 0, .bool false, .bool false, .bool false, .int .i64 0, .int .i64 0, .int .i64 0, .int .i64 0, .int .i64 0, .int .i64 0, .slice none 0 0, .slice none 0 0, .slice none 0 0] 34)) = W1 at HWA ⊢
  clear hWW
  obtain ⟨hb, hsz, kA, kR, fR⟩ := HWA.out
  clear HWA
  have HB : Hid (Below w.heap.size w W1) := hb
  have zA : w.heap.size < W1.heap.size := by omega
  have zR : w.heap.size + 1 < W1.heap.size := by omega
  clear hb hsz
  go_wp2_with (refine wpList_load_mid rfl 32 _ rfl _ _ (by rfl) A.toList _ (bx_range kA) Try.underlying32 rfl HIA.out ?_)
  refine (HNF.out _ HB.out).mono ?_
  rintro e w2 ⟨rfl, hb⟩
  replace kA := bx_below kA zA hb
  replace zA := Nat.lt_of_lt_of_le zA hb.size
  replace kR := bx_below kR zR hb
  replace fR := bxF fR hb zR
  replace zR := Nat.lt_of_lt_of_le zR hb.size
  replace HB : Hid (Below w.heap.size w w2) := HB.out.trans (hb.mono HB.out.size)
  clear hb
  have hv := HV.out
  clear HV
  by_cases hF : netF bag dead = 0
  · rw [if_neg (by simp [hF])] at hv
    obtain ⟨h60, h3, hok⟩ := netF_ok hF
    rw [hF]
    go_wp2_with fail
    refine (HIB.out _).mono ?_
    rintro e w3 ⟨rfl, hw3⟩
    subst w3
    cases hI : inB9 x1 0 2 with
    | false =>
      rw [if_pos hI] at hv
      clear HNF HIB
      obtain ⟨N15, hN⟩ : ∃ N : Array Value, N = #[.int .i64 3, .int .i64 0, .int .i64 0, .bool false, .bool false, .bool false, .int .i64 0, .int .i64 0, .int .i64 0, .int .i64 0, .int .i64 0, .int .i64 0, .slice none 0 0, .slice none 0 0, .slice none 0 0] := ⟨_, rfl⟩
      have HN15 : Hid _ := hN
      have hNz : N15.size = 15 := by rw [hN]; rfl
      have HNZ15 : Hid (N15.size = 15) := hNz
      have HIN15 : Hid ((Try.prog.info? 34).map (·.size) = some N15.size) := by show _ = _; rw [hNz]; exact info_NR
      have HONE15 : Hid (N15.all (·.oneCell') = true) := by show _ = _; rw [hN]; simp [Value.oneCell']
      clear hN hNz
      have HTH : Hid (w2.there (w.heap.size + 1) 0 N15.size) := bx_there kR fR (by rw [HNZ15.out]; rfl)
      have HKR : Hid (∀ o, (w2.setCells (w.heap.size + 1) 0 N15.toList).cell? ⟨w.heap.size + 1, o, none⟩ = N15[o]?) := bx_setCells kR (by rw [HNZ15.out]; rfl)
      go_wp2_with (first | (refine wpList_store_mid rfl 34 _ _ rfl _ _ N15 (by rfl) (by rw [HN15.out]; rfl) HTH.out HIN15.out HONE15.out ?_))
      refine bodyPost_ret (results_box Try.results21 _ _ _ N15 _ (by rfl) HKR.out Try.underlying34 rfl (by exact HIN15.out)) rfl ⟨N15, rfl, ?_, ?_⟩
      · rw [setCells_size, HN15.out]
        exact (Own.keep (by rw [hv]; exact own_badN _ w2 (w.heap.size + 2) w2.heap.size (by decide) (by omega)) (fun b h1 h2 => setCells_block (by omega) _ _ _)).mono (by omega) (Nat.le_refl _)
      · exact setCells_below (by omega) _ _ _ _ HB.out
    | true =>
      rw [if_neg (by rw [hI]; simp)] at hv
      obtain ⟨hx0, hx2⟩ := (inB_iff9 x1 0 2).1 hI
      obtain ⟨k, hk⟩ : ∃ k : Nat, x1 = k := ⟨x1.toNat, by omega⟩
      have hk3 : k < 3 := by omega
      have e1 : x1.toNat = k := by omega
      rw [e1, hk] at hv
      have HSG : Hid (∀ x ∈ bag, totSegm x ≤ 8 ∧ 0 ≤ x.1 ∧ x.1 ≤ 2) := fun x hx => by have := sgF_ok (hok x hx).1; omega
      have HPK : Hid (putN (dead.set k true) [] bag = killF k bag) := by have h := kill_put (dead := dead) (k := k) (by omega) bag [] (fun x hx => ⟨(hok x hx).2, by have := sgF_ok (hok x hx).1; omega⟩) (by simp; omega); rw [List.nil_append] at h; exact h
      have HDO : Hid (∀ W, Below w.heap.size w W → Calls Try.prog 48 #[.slice da dead.length dcap] W fun e w' => e = .returned (.agg (arr3 dead)) ∧ Below W.heap.size W w') := fun W hW => iDeadOf _ dead _ W B (HRd.out W hW) (Nat.le_trans hB hW.size) h3
      have HCB : Hid (∀ W, Below w.heap.size w W → Calls Try.prog 49 #[.agg (arr3 (dead.set k true)), .slice a bag.length cap] W fun e w' => ∃ N : Array Value, e = .returned (.agg N) ∧ NetP 65 w' W.heap.size (killF k bag) (dead.set k true) N ∧ Below W.heap.size W w') := fun W hW => by have h := iCarriedBy (dead.set k true) bag _ W B (HRb.out W hW) (Nat.le_trans hB hW.size) (by rw [List.length_set]; exact h3) (by omega) (fun x hx => by have := (HSG.out x hx).1; omega) (fun x hx => (HSG.out x hx).2); rw [HPK.out] at h; exact h
      have HDS : Hid ((arr3 dead).setIfInBounds k (.bool true) = arr3 (dead.set k true)) := arr3_set dead h3 k hk3
      have HL3 : Hid ((dead.set k true).length = 3) := by show _ = _; rw [List.length_set]; exact h3
      have HOD : Hid ((arr3 dead).all (·.oneCell') = true) := by show _ = _; unfold arr3; simp [Value.oneCell']
      have HDZ : Hid ((arr3 dead).size = 3) := rfl
      have HDZ2 : Hid ((arr3 (dead.set k true)).size = 3) := rfl
      rw [h3] at HDO a1
      obtain ⟨nb, hnb⟩ : ∃ nb, bag.length = nb := ⟨_, rfl⟩
      rw [hnb] at HCB a0
      obtain ⟨nk, hnk⟩ : ∃ nk, (killF k bag).length = nk := ⟨_, rfl⟩
      have HNK : Hid ((killF k bag).length = nk) := hnk
      generalize killF k bag = KB at *
      generalize dead.set k true = DS at *
      clear hnk hnb hok hI HNF HIB HRb HRd HA2 e1 HSG HPK h60 ht h3
      subst hk
      have hk0 : (0 : Int) ≤ (k : Int) := by omega
      have hk33 : (k : Int) < 3 := by omega
      have HID : Hid ((Try.prog.info? 65).map (·.size) = some (arr3 dead).size) := by show _ = _; rw [HDZ.out]; exact info_dead
      generalize arr3 dead = D at *
      have HID2 : Hid ((Try.prog.info? 65).map (·.size) = some (arr3 DS).toList.length) := by show _ = _; rw [Array.length_toList, HDZ2.out]; exact info_dead
      generalize arr3 DS = D2 at *
      go_wp2_with fail
      refine (HDO.out _ HB.out).mono ?_
      rintro e u1 ⟨rfl, hb⟩
      replace kA := bx_below kA zA hb
      replace zA := Nat.lt_of_lt_of_le zA hb.size
      replace kR := bx_below kR zR hb
      replace fR := bxF fR hb zR
      replace zR := Nat.lt_of_lt_of_le zR hb.size
      replace HB : Hid (Below w.heap.size w u1) := HB.out.trans (hb.mono HB.out.size)
      clear hb
      clear HDO
      have HTH : Hid ((u1.alloc (.cells #[.bool false, .bool false, .bool false] 65)).there u1.heap.size 0 D.size) := bx_there (bx_al _ _ _) (fx_al _ _ _) (by rw [HDZ.out]; rfl)
      have HWN : Hid (Below u1.heap.size u1 ((u1.alloc (.cells #[.bool false, .bool false, .bool false] 65)).setCells u1.heap.size 0 D.toList) ∧ u1.heap.size < ((u1.alloc (.cells #[.bool false, .bool false, .bool false] 65)).setCells u1.heap.size 0 D.toList).heap.size ∧ (∀ o, ((u1.alloc (.cells #[.bool false, .bool false, .bool false] 65)).setCells u1.heap.size 0 D.toList).cell? ⟨u1.heap.size, o, none⟩ = D[o]?) ∧ (∀ o, ((u1.alloc (.cells #[.bool false, .bool false, .bool false] 65)).setCells u1.heap.size 0 D.toList).frozen? ⟨u1.heap.size, o, none⟩ = false)) := ⟨setCells_below (Nat.le_refl _) _ _ _ _ ((Below.refl _ _).alloc (Nat.le_refl _) _), by rw [setCells_size]; simp, bx_setCells (bx_al u1 _ _) (by rw [HDZ.out]; rfl), fx_sets (fx_al _ _ _)⟩
      go_upto_region 7 with (first | (refine wpList_store_mid rfl 65 _ _ rfl _ _ D (by rfl) (by rfl) HTH.out HID.out HOD.out ?_))
      generalize hWW : ((u1.alloc (.cells #[.bool false, .bool false, .bool false] 65)).setCells u1.heap.size 0 D.toList) = u2 at HWN ⊢
      clear hWW HTH
      obtain ⟨hb, zD, kD, fD⟩ := HWN.out
      clear HWN
      obtain ⟨bD, hq⟩ : ∃ q, q = u1.heap.size := ⟨_, rfl⟩
      rw [← hq] at zD kD fD ⊢
      have lAD : w.heap.size < bD := by rw [hq]; exact zA
      have lRD : w.heap.size + 1 < bD := by rw [hq]; exact zR
      have lwD : w.heap.size ≤ bD := by rw [hq]; exact HB.out.size
      clear hq
      replace kA := bx_below kA zA hb
      replace zA := Nat.lt_of_lt_of_le zA hb.size
      replace kR := bx_below kR zR hb
      replace fR := bxF fR hb zR
      replace zR := Nat.lt_of_lt_of_le zR hb.size
      replace HB : Hid (Below w.heap.size w u2) := HB.out.trans (hb.mono HB.out.size)
      clear hb
      have zD3 : k < D.size := by rw [HDZ.out]; exact hk3
      have hDk : (D[k]?).isSome = true := by rw [Array.getElem?_eq_getElem zD3]; rfl
      obtain ⟨old, hold⟩ := Option.isSome_iff_exists.1 hDk
      clear hDk
      go_upto_region 8 with fail
      have kD2 : ∀ o, (u2.setCell ⟨bD, k, none⟩ (.bool true)).cell? ⟨bD, o, none⟩ = D2[o]? := by have h := bx_put kD (k := k) (v := .bool true) zD3; rw [HDS.out] at h; exact h
      have kA2 : ∀ o, (u2.setCell ⟨bD, k, none⟩ (.bool true)).cell? ⟨w.heap.size, o, none⟩ = A[o]? := bx_setC kA (by omega)
      have kR2 : ∀ o, (u2.setCell ⟨bD, k, none⟩ (.bool true)).cell? ⟨w.heap.size + 1, o, none⟩ = (#[.int .i64 0, .int .i64 0, .int .i64 0, .bool false, .bool false, .bool false, .int .i64 0, .int .i64 0, .int .i64 0, .int .i64 0, .int .i64 0, .int .i64 0, .slice none 0 0, .slice none 0 0, .slice none 0 0] : Array Value)[o]? := bx_setC kR (by omega)
      have fR2 : ∀ o, (u2.setCell ⟨bD, k, none⟩ (.bool true)).frozen? ⟨w.heap.size + 1, o, none⟩ = false := fx_setC fR
      have HB2 : Hid (Below w.heap.size w (u2.setCell ⟨bD, k, none⟩ (.bool true))) := Below.setCell (p := ⟨bD, k, none⟩) HB.out (show w.heap.size ≤ bD by omega) _
      have hz2 : (u2.setCell ⟨bD, k, none⟩ (.bool true)).heap.size = u2.heap.size := by simp
      generalize hWW : u2.setCell ⟨bD, k, none⟩ (.bool true) = u3 at kD2 kA2 kR2 fR2 HB2 hz2 ⊢
      clear hWW kD kA kR fR HB hold
      have kA := kA2
      have kR := kR2
      have fR := fR2
      have HB := HB2
      have zA3 : w.heap.size < u3.heap.size := by omega
      have zR3 : w.heap.size + 1 < u3.heap.size := by omega
      clear kA2 kR2 fR2 HB2 hz2 fD
      go_wp2_with (refine wpList_load_mid rfl 65 _ rfl _ _ (by rfl) D2.toList _ (bx_range kD2) Try.underlying65 rfl HID2.out ?_)
      refine (HCB.out _ HB.out).mono ?_
      rintro e u4 ⟨N, rfl, hnp, hb⟩
      have hz3 := hb.size
      have HO : Hid (Own u4 u3.heap.size u4.heap.size (shNR 65) (0, zSg, (KB, DS, ()), ()) (.int .i64 0 :: (zSc ++ N.toList))) := own_okN hnp hb.size
      obtain ⟨m5, a5, a6, c5, c6, e5, -⟩ := hnp
      rw [HL3.out, HNK.out] at e5
      subst e5
      replace kR := bx_below kR zR3 hb
      replace fR := bxF fR hb zR3
      replace HB : Hid (Below w.heap.size w u4) := HB.out.trans (hb.mono HB.out.size)
      clear hb HCB kA kD2
      obtain ⟨N15, hN⟩ : ∃ N : Array Value, N = #[.int .i64 0, .int .i64 0, .int .i64 0, .bool false, .bool false, .bool false, .int .i64 0, .int .i64 0, .int .i64 0, .int .i64 0, .int .i64 0, .int .i64 0, .slice none 0 0, .slice a5 nk c5, .slice a6 3 c6] := ⟨_, rfl⟩
      have HN15 : Hid _ := hN
      have hNz : N15.size = 15 := by rw [hN]; rfl
      have HNZ15 : Hid (N15.size = 15) := hNz
      have HIN15 : Hid ((Try.prog.info? 34).map (·.size) = some N15.size) := by show _ = _; rw [hNz]; exact info_NR
      have HONE15 : Hid (N15.all (·.oneCell') = true) := by show _ = _; rw [hN]; simp [Value.oneCell']
      clear hN hNz
      have HTH : Hid (u4.there (w.heap.size + 1) 0 N15.size) := bx_there kR fR (by rw [HNZ15.out]; rfl)
      have HKR : Hid (∀ o, (u4.setCells (w.heap.size + 1) 0 N15.toList).cell? ⟨w.heap.size + 1, o, none⟩ = N15[o]?) := bx_setCells kR (by rw [HNZ15.out]; rfl)
      go_wp2_with (first | (refine wpList_store_mid rfl 34 _ _ rfl _ _ N15 (by rfl) (by rw [HN15.out]; rfl) HTH.out HIN15.out HONE15.out ?_))
      refine bodyPost_ret (results_box Try.results21 _ _ _ N15 _ (by rfl) HKR.out Try.underlying34 rfl (by exact HIN15.out)) rfl ⟨N15, rfl, ?_, ?_⟩
      · rw [setCells_size, HN15.out]
        exact (Own.keep (by rw [hv]; exact HO.out) (fun b h1 h2 => setCells_block (by omega) _ _ _)).mono (by omega) (Nat.le_refl _)
      · exact setCells_below (by omega) _ _ _ _ HB.out
  · rw [if_pos hF] at hv
    have h1 : (netF bag dead != 0) = true := by simp [hF]
    have h2 : (netF bag dead == 0) = false := by simp [hF]
    clear HNF HIB
    generalize netF bag dead = q at *
    obtain ⟨N15, hN⟩ : ∃ N : Array Value, N = #[.int .i64 q, .int .i64 0, .int .i64 0, .bool false, .bool false, .bool false, .int .i64 0, .int .i64 0, .int .i64 0, .int .i64 0, .int .i64 0, .int .i64 0, .slice none 0 0, .slice none 0 0, .slice none 0 0] := ⟨_, rfl⟩
    have HN15 : Hid _ := hN
    have hNz : N15.size = 15 := by rw [hN]; rfl
    have HNZ15 : Hid (N15.size = 15) := hNz
    have HIN15 : Hid ((Try.prog.info? 34).map (·.size) = some N15.size) := by show _ = _; rw [hNz]; exact info_NR
    have HONE15 : Hid (N15.all (·.oneCell') = true) := by show _ = _; rw [hN]; simp [Value.oneCell']
    clear hN hNz
    have HTH : Hid (w2.there (w.heap.size + 1) 0 N15.size) := bx_there kR fR (by rw [HNZ15.out]; rfl)
    have HKR : Hid (∀ o, (w2.setCells (w.heap.size + 1) 0 N15.toList).cell? ⟨w.heap.size + 1, o, none⟩ = N15[o]?) := bx_setCells kR (by rw [HNZ15.out]; rfl)
    go_wp2_with (first | (refine wpList_store_mid rfl 34 _ _ rfl _ _ N15 (by rfl) (by rw [HN15.out]; rfl) HTH.out HIN15.out HONE15.out ?_))
    refine bodyPost_ret (results_box Try.results21 _ _ _ N15 _ (by rfl) HKR.out Try.underlying34 rfl (by exact HIN15.out)) rfl ⟨N15, rfl, ?_, ?_⟩
    · rw [setCells_size, HN15.out]
      exact (Own.keep (by rw [hv]; exact own_badN _ w2 (w.heap.size + 2) w2.heap.size HWF.out (by omega)) (fun b h1 h2 => setCells_block (by omega) _ _ _)).mono (by omega) (Nat.le_refl _)
    · exact setCells_below (by omega) _ _ _ _ HB.out
end Go.Proofs.Ytlfncadngcjdjab
