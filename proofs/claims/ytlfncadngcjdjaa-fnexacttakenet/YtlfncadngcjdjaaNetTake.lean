/- TakeNet by the program, and plain facts; nothing that was in memory turns; the condition is that there are at most a million parts. Written by mknet16.py. -/
import Derived.Test.YtlfncadngcjdjaaRows
import Derived.Test.YtlfncadngcjdjaaBase
import Derived.Test.YtlfncadngcjdjaaBytes
import Derived.Test.YtlfncadngcjdjaaMem
import Derived.Test.YtlfncadngcjdjaaMemOpen
import Derived.Test.YtlfncadngcjdjaaMemRow
import Derived.Test.YtlfncadngcjdjaaHBase
import Derived.Test.YtlfncadngcjdjaaHMark
import Derived.Test.YtlfncadngcjdjaaBox
import Derived.Test.YtlfncadngcjdjaaSubBox
import Derived.Test.YtlfncadngcjdjaaAgg
import Derived.Test.YtlfncadngcjdjaaElMark
import Derived.Test.YtlfncadngcjdjaaMSegs
import Derived.Test.YtlfncadngcjdjaaRegionU
import Derived.Test.YtlfncadngcjdjaaHSegs
import Derived.Test.YtlfncadngcjdjaaAppBytes
import Derived.Test.YtlfncadngcjdjaaApp
import Derived.Test.YtlfncadngcjdjaaMemApp
import Derived.Test.YtlfncadngcjdjaaSeg
import Derived.Test.YtlfncadngcjdjaaSegFS
import Derived.Test.YtlfncadngcjdjaaSegFI
import Derived.Test.YtlfncadngcjdjaaStrip
import Derived.Test.YtlfncadngcjdjaaRegS
import Derived.Test.YtlfncadngcjdjaaHBool
import Derived.Test.YtlfncadngcjdjaaHSegT
import Derived.Test.YtlfncadngcjdjaaNetSeg
import Derived.Test.YtlfncadngcjdjaaNetDef
import Derived.Test.YtlfncadngcjdjaaNetSpF
import Derived.Test.YtlfncadngcjdjaaNetImF
import Derived.Test.YtlfncadngcjdjaaHNet
import Derived.Test.YtlfncadngcjdjaaSegR
import Derived.Test.YtlfncadngcjdjaaNetBx
import Derived.Test.YtlfncadngcjdjaaNetR
import Derived.Test.YtlfncadngcjdjaaNetImC
import Derived.Test.YtlfncadngcjdjaaNetSpC
import Derived.Test.YtlfncadngcjdjaaRegionQ
import Derived.Test.YtlfncadngcjdjaaNetAsk
import Derived.Test.YtlfncadngcjdjaaNetDef2
import Derived.Test.YtlfncadngcjdjaaNetTy
import Derived.Test.YtlfncadngcjdjaaNetRow
import Derived.Test.YtlfncadngcjdjaaNetCat
import Derived.Test.YtlfncadngcjdjaaNetDel
import Derived.Test.YtlfncadngcjdjaaNetDelI
import Derived.Deep.RegionHeld3
import Derived.Deep.DeepCutAuto
import Derived.Deep.DeepMust
import Derived.Deep.MidRow
namespace Go.Proofs.Ytlfncadngcjdjaa
open Go.RowKit
set_option linter.unusedVariables false
set_option maxRecDepth 8000
def takV (g : DNet) (x : Int) : DNR := if askF g.1 g.2.1 x ≠ 0 then badN (askF g.1 g.2.1 x) else (0, g.1.getD x.toNat zSg, (g.1.eraseIdx x.toNat, g.2.1, ()), ())
theorem tot_erase : ∀ (l : List DSegm) (k : Nat), k < l.length → totSegm (l.getD k zSg) + totSegms (l.eraseIdx k) ≤ totSegms l
  | [], k, h => by simp at h
  | x :: r, 0, _ => by
    have e2 : totSegms (x :: r) = totSegms [x] + totSegms r := totSegms_app [x] r
    have e3 : totSegms [x] = 1 + totSegm x := by simp [totSegms, fsum]
    show totSegm x + totSegms r ≤ _
    omega
  | x :: r, k + 1, h => by
    have ih := tot_erase r k (by simpa using h)
    have e1 : totSegms (x :: r.eraseIdx k) = totSegms [x] + totSegms (r.eraseIdx k) := totSegms_app [x] _
    have e2 : totSegms (x :: r) = totSegms [x] + totSegms r := totSegms_app [x] r
    show totSegm (r.getD k zSg) + totSegms (x :: r.eraseIdx k) ≤ _
    omega
theorem takV_tot {g : DNet} (x : Int) (h : totNet g ≤ 1048576) : totNR (takV g x) ≤ 1048576 := by
  unfold takV
  by_cases h1 : askF g.1 g.2.1 x = 0
  · rw [if_neg (by simp [h1])]
    obtain ⟨hN, h0, hn⟩ := askF_ok h1
    unfold totNet at h
    have := tot_erase g.1 x.toNat (by omega)
    show totSegm (g.1.getD x.toNat zSg) + (totSegms (g.1.eraseIdx x.toNat) + g.2.1.length) ≤ _
    omega
  · rw [if_pos h1, tot_badN]; omega
theorem RowT.below {w w' : World} {lo hi C : Nat} {v : Value} {T : List El3} (h : RowT w lo hi v T) (hb : Below C w w') (hc : hi ≤ C) : RowT w' lo hi v T :=
  ⟨ownsRow_below h.own (fun b e => hb.block b (Nat.lt_of_lt_of_le (h.hv b e) hc)), h.hv, fun x hx => Sh.Ow.keep _ _ _ _ (fun b hbx => hb.block b (by have := h.rg b (List.mem_flatten.2 ⟨x.2.1, List.mem_map.2 ⟨x, hx, rfl⟩, hbx⟩); omega)) (h.el x hx), h.nd, h.rg⟩
theorem RowT.setp {w : World} {lo hi p k : Nat} {u v : Value} {T : List El3} (h : RowT w lo hi v T) (hp : hi ≤ p) : RowT (w.setCell ⟨p, k, none⟩ u) lo hi v T :=
  ⟨ownsRow_below h.own (fun b e => Below.heap_setCell _ _ _ _ (by dsimp only; have := h.hv b e; omega)), h.hv, fun x hx => Sh.Ow.keep _ _ _ _ (fun b hbx => Below.heap_setCell _ _ _ _ (by dsimp only; have := h.rg b (List.mem_flatten.2 ⟨x.2.1, List.mem_map.2 ⟨x, hx, rfl⟩, hbx⟩); omega)) (h.el x hx), h.nd, h.rg⟩
theorem fx_blk {w w' : World} {b : Nat} (h : ∀ o, w.frozen? ⟨b, o, none⟩ = false) (hk : w'.heap[b]? = w.heap[b]?) : ∀ o, w'.frozen? ⟨b, o, none⟩ = false := fun o => by rw [← h o]; simp [World.frozen?, hk]
theorem map_erase {T : List El3} {k : Nat} : (T.eraseIdx k).map (·.1) = (T.map (·.1)).eraseIdx k := by
  rw [List.eraseIdx_eq_take_drop_succ, List.eraseIdx_eq_take_drop_succ, List.map_append, List.map_take, List.map_drop]
set_option maxHeartbeats 8000000 in
theorem iTakeNetA (x0 : DNet) (A : Array Value) (x1 : Int) (w : World) (B : Nat) (hr : shNet.Rd w B x0 A.toList) (hT : totNet x0 ≤ 1048576) (hB : B ≤ w.heap.size) :
    Calls Try.prog 15 #[.agg A, .int .i64 x1] w fun e w' => ∃ N : Array Value, e = .returned (.agg N) ∧ Own w' w.heap.size w'.heap.size (shNR 69) (takV x0 x1) N.toList ∧ Below w.heap.size w w' := by
  obtain ⟨bag, dead, ⟨⟩⟩ := x0
  obtain ⟨a, cap, da, dcap, eA, rb, rdd⟩ := rd_Net hr
  have a0 : A[0]? = some (.slice a bag.length cap) := get_of eA 0
  have a1 : A[1]? = some (.slice da dead.length dcap) := get_of eA 1
  have HRb : Hid (∀ W, Below w.heap.size w W → shSegms.Rd W B bag [.slice a bag.length cap]) := fun W hW => Sh.Rd.below rb hB hW
  have HRd : Hid (∀ W, Below w.heap.size w W → (bls 4).Rd W B dead [.slice da dead.length dcap]) := fun W hW => Sh.Rd.below rdd hB hW
  have eA2 := arr_of eA
  have HA2 : Hid (A = #[.slice a bag.length cap, .slice da dead.length dcap]) := eA2
  have HIA : Hid ((Try.prog.info? 27).map (·.size) = some A.toList.length) := by show _ = _; rw [eA]; exact info_NT
  have ht : totSegms bag + dead.length ≤ 1048576 := hT
  have HAK : Hid (∀ W, Below w.heap.size w W → Calls Try.prog 53 #[.agg A, .int .i64 x1] W fun e w' => e = .returned (.int .i64 (askF bag dead x1)) ∧ Below W.heap.size W w') := fun W hW => by rw [HA2.out]; exact iPlaceFault _ bag dead x1 _ _ W B (HRb.out W hW) (HRd.out W hW) (Nat.le_trans hB hW.size)
  obtain ⟨V, hV⟩ : ∃ V, V = takV (bag, dead, ()) x1 := ⟨_, rfl⟩
  rw [← hV]
  have HV : Hid (V = if askF bag dead x1 ≠ 0 then badN (askF bag dead x1) else (0, bag.getD x1.toNat zSg, (bag.eraseIdx x1.toNat, dead, ()), ())) := hV
  have HWF : Hid _ := askF_wf bag dead x1
  have hmx : bag.length ≤ 1048576 := by unfold totSegms at ht; omega
  have HRA : Hid (∀ W, Below w.heap.size w W → shNet.Rd W B (bag, dead, ()) A.toList) := fun W hW => Sh.Rd.below hr hB hW
  clear hV eA eA2 rb rdd hr hT
  have HWA : Hid (Below w.heap.size w ((w.alloc (.cells A 27)).alloc (.cells #[.int .i64 0, .int .i64 0, .int .i64 0, .bool false, .bool false, .bool false, .int .i64 0, .int .i64 0, .int .i64 0, .int .i64 0, .int .i64 0, .int .i64 0, .slice none 0 0, .slice none 0 0, .slice none 0 0] 33)) ∧ ((w.alloc (.cells A 27)).alloc (.cells #[.int .i64 0, .int .i64 0, .int .i64 0, .bool false, .bool false, .bool false, .int .i64 0, .int .i64 0, .int .i64 0, .int .i64 0, .int .i64 0, .int .i64 0, .slice none 0 0, .slice none 0 0, .slice none 0 0] 33)).heap.size = w.heap.size + 2 ∧ (∀ o, ((w.alloc (.cells A 27)).alloc (.cells #[.int .i64 0, .int .i64 0, .int .i64 0, .bool false, .bool false, .bool false, .int .i64 0, .int .i64 0, .int .i64 0, .int .i64 0, .int .i64 0, .int .i64 0, .slice none 0 0, .slice none 0 0, .slice none 0 0] 33)).cell? ⟨w.heap.size, o, none⟩ = (A : Array Value)[o]?) ∧ (∀ o, ((w.alloc (.cells A 27)).alloc (.cells #[.int .i64 0, .int .i64 0, .int .i64 0, .bool false, .bool false, .bool false, .int .i64 0, .int .i64 0, .int .i64 0, .int .i64 0, .int .i64 0, .int .i64 0, .slice none 0 0, .slice none 0 0, .slice none 0 0] 33)).cell? ⟨w.heap.size + 1, o, none⟩ = (#[.int .i64 0, .int .i64 0, .int .i64 0, .bool false, .bool false, .bool false, .int .i64 0, .int .i64 0, .int .i64 0, .int .i64 0, .int .i64 0, .int .i64 0, .slice none 0 0, .slice none 0 0, .slice none 0 0] : Array Value)[o]?) ∧ (∀ o, ((w.alloc (.cells A 27)).alloc (.cells #[.int .i64 0, .int .i64 0, .int .i64 0, .bool false, .bool false, .bool false, .int .i64 0, .int .i64 0, .int .i64 0, .int .i64 0, .int .i64 0, .int .i64 0, .slice none 0 0, .slice none 0 0, .slice none 0 0] 33)).frozen? ⟨w.heap.size + 1, o, none⟩ = false)) := ⟨(((Below.refl _ _).alloc (Nat.le_refl _) _).alloc (by simp) _), by simp, fun o => by simp [go_sem], fun o => by simp [go_sem], fun o => by simp [go_sem]⟩
  go_enter Try.func15, Try.ntmps15
  go_upto_region 1 with fail
  generalize hWW : ((w.alloc (.cells A 27)).alloc (.cells #[.int .i64 0, .int .i64 0, .int .i64 0, .bool false, .bool false, .bool false, .int .i64 0, .int .i64 0, .int .i64 0, .int .i64 0, .int .i64 0, .int .i64 0, .slice none 0 0, .slice none 0 0, .slice none 0 0] 33)) = W1 at HWA ⊢
  clear hWW
  obtain ⟨hb, hsz, kA, kR, fR⟩ := HWA.out
  clear HWA
  have HB : Hid (Below w.heap.size w W1) := hb
  have zA : w.heap.size < W1.heap.size := by omega
  have zR : w.heap.size + 1 < W1.heap.size := by omega
  clear hb hsz
  go_wp2_with (refine wpList_load_mid rfl 27 _ rfl _ _ (by rfl) A.toList _ (bx_range kA) Try.underlying27 rfl HIA.out ?_)
  refine (HAK.out _ HB.out).mono ?_
  rintro e w2 ⟨rfl, hb⟩
  replace kA := bx_below kA zA hb
  replace zA := Nat.lt_of_lt_of_le zA hb.size
  replace kR := bx_below kR zR hb
  replace fR := bxF fR hb zR
  replace zR := Nat.lt_of_lt_of_le zR hb.size
  replace HB : Hid (Below w.heap.size w w2) := HB.out.trans (hb.mono HB.out.size)
  clear hb
  have hv := HV.out
  clear HV
  by_cases hF : askF bag dead x1 = 0
  · rw [if_neg (by simp [hF])] at hv
    obtain ⟨hN0, hx0, hxn⟩ := askF_ok hF
    obtain ⟨h60, h3, hok⟩ := netF_ok hN0
    have HOK : Hid (∀ x ∈ bag, totSegm x ≤ 8 ∧ sgF x = 0) := fun x hx => by have := sgF_ok (hok x hx).1; exact ⟨by omega, (hok x hx).1⟩
    rw [hF]
    obtain ⟨k, hk⟩ : ∃ k : Nat, x1 = k := ⟨x1.toNat, by omega⟩
    have hkn : k < bag.length := by omega
    have HD3 : Hid (dead.length = 3) := h3
    have HCP : Hid (∀ W, Below w.heap.size w W → Calls Try.prog 54 #[.agg A] W fun e w' => ∃ N : Array Value, e = .returned (.agg N) ∧ NetP 69 w' W.heap.size bag dead N ∧ Below W.heap.size W w') := fun W hW => by rw [HA2.out]; exact iCopyNet _ bag dead _ _ W B (HRb.out W hW) (HRd.out W hW) (Nat.le_trans hB hW.size) hN0
    have HN00 : Hid (netF bag dead = 0) := hN0
    clear hok HAK hF hN0
    have e1 : x1.toNat = k := by omega
    rw [e1] at hv
    obtain ⟨m1, hnb⟩ : ∃ m1, bag.length = m1 + 1 := ⟨bag.length - 1, by omega⟩
    have HNB : Hid (bag.length = m1 + 1) := hnb
    clear HRb HRd HA2 HRA HN00 HOK e1
    rw [hnb] at a0 h60 hmx hkn
    rw [HD3.out] at a1
    subst hk
    go_wp2_with (refine wpList_load_mid rfl 27 _ rfl _ _ (by rfl) A.toList _ (bx_range kA) Try.underlying27 rfl HIA.out ?_)
    refine (HCP.out _ HB.out).mono ?_
    rintro e u1 ⟨N, rfl, hnp, hb⟩
    have hz1 := hb.size
    have hNz := hnp.size
    have HNZ : Hid (N.size = 2) := hNz
    have HIN : Hid ((Try.prog.info? 27).map (·.size) = some N.size) := by show _ = _; rw [hNz]; exact info_NT
    have HONE : Hid (N.all (·.oneCell') = true) := hnp.one
    obtain ⟨m, va, da', vc, dc, eN, xd, xo, lm, lh⟩ := hnp
    rw [HD3.out] at eN xd
    have HEN : Hid _ := eN
    obtain ⟨w0, ew0⟩ : ∃ x, x = w2.heap.size := ⟨_, rfl⟩
    have hwz0 : w.heap.size + 2 ≤ w0 := by omega
    have hm1 : w0 ≤ m := by omega
    obtain ⟨hh, ehh⟩ : ∃ x, x = u1.heap.size := ⟨_, rfl⟩
    have XD : Hid (Own u1 w0 m (bls 69) dead [.slice da' 3 dc]) := by rw [ew0]; exact xd
    have XO : Hid (Own u1 m hh shSegms bag [.slice va bag.length vc]) := by rw [ehh]; exact xo
    have lh2 : m ≤ hh := by rw [ehh]; exact lh
    have lh3 : hh ≤ u1.heap.size := by omega
    clear hNz eN xd xo ew0 HCP lm lh
    replace kA := bx_below kA zA hb
    replace zA := Nat.lt_of_lt_of_le zA hb.size
    replace kR := bx_below kR zR hb
    replace fR := bxF fR hb zR
    replace zR := Nat.lt_of_lt_of_le zR hb.size
    replace HB : Hid (Below w.heap.size w u1) := HB.out.trans (hb.mono HB.out.size)
    clear hb
    clear ehh
    have HTH : Hid ((u1.alloc (.cells #[.slice none 0 0, .slice none 0 0] 27)).there u1.heap.size 0 N.size) := bx_there (bx_al _ _ _) (fx_al _ _ _) (by rw [HNZ.out]; rfl)
    have HWN : Hid (Below u1.heap.size u1 ((u1.alloc (.cells #[.slice none 0 0, .slice none 0 0] 27)).setCells u1.heap.size 0 N.toList) ∧ u1.heap.size < ((u1.alloc (.cells #[.slice none 0 0, .slice none 0 0] 27)).setCells u1.heap.size 0 N.toList).heap.size ∧ (∀ o, ((u1.alloc (.cells #[.slice none 0 0, .slice none 0 0] 27)).setCells u1.heap.size 0 N.toList).cell? ⟨u1.heap.size, o, none⟩ = N[o]?) ∧ (∀ o, ((u1.alloc (.cells #[.slice none 0 0, .slice none 0 0] 27)).setCells u1.heap.size 0 N.toList).frozen? ⟨u1.heap.size, o, none⟩ = false) ∧ (∃ cur, ((u1.alloc (.cells #[.slice none 0 0, .slice none 0 0] 27)).setCells u1.heap.size 0 N.toList).heap[u1.heap.size]? = some (.cells cur 27 (0, 0)))) := ⟨setCells_below (Nat.le_refl _) _ _ _ _ ((Below.refl _ _).alloc (Nat.le_refl _) _), by rw [setCells_size]; simp, bx_setCells (bx_al u1 _ _) (by rw [HNZ.out]; rfl), fx_sets (fx_al _ _ _), al_tyN _ _ _ _⟩
    go_upto_region 5 with (refine wpList_store_mid rfl 27 _ _ rfl _ _ N (by rfl) (by rfl) HTH.out HIN.out HONE.out ?_)
    generalize hWW : ((u1.alloc (.cells #[.slice none 0 0, .slice none 0 0] 27)).setCells u1.heap.size 0 N.toList) = u2 at HWN ⊢
    clear hWW HTH HIN HONE HNZ
    obtain ⟨hb, zQ, kQ, fQ, tQ⟩ := HWN.out
    clear HWN
    replace XD : Hid (Own u2 w0 m (bls 69) dead [.slice da' 3 dc]) := Own.below XD.out (by omega) hb
    replace XO : Hid (Own u2 m hh shSegms bag [.slice va bag.length vc]) := Own.below XO.out (by omega) hb
    obtain ⟨q, hq⟩ : ∃ q, q = u1.heap.size := ⟨_, rfl⟩
    have hqh : hh ≤ q := by omega
    replace kA := bx_below kA zA hb
    replace zA := Nat.lt_of_lt_of_le zA hb.size
    replace kR := bx_below kR zR hb
    replace fR := bxF fR hb zR
    replace zR := Nat.lt_of_lt_of_le zR hb.size
    replace HB : Hid (Below w.heap.size w u2) := HB.out.trans (hb.mono HB.out.size)
    clear hb
    rw [← hq] at zQ kQ fQ tQ ⊢
    have TQ : Hid _ := tQ
    clear hq lh3 hz1 tQ
    rw [HEN.out] at kQ
    clear HEN
    rw [hnb] at XO kQ
    clear hnb
    obtain ⟨T, hTb, hRT⟩ := Own.rowT XO.out
    have hTl : T.length = m1 + 1 := by rw [← HNB.out, ← hTb]; simp
    obtain ⟨g, hg, hg1, hg2⟩ := hRT.some' (by omega)
    subst hg
    have hkT : k < T.length := by omega
    have hgd : bag.getD k zSg = T[k].1 := by rw [← hTb, List.getD_eq_getElem?_getD, List.getElem?_eq_getElem (by simpa using hkT)]; simp
    have HV2 : Hid (V = (0, T[k].1, ((T.eraseIdx k).map (·.1), dead, ()), ())) := by show _ = _; rw [hv, hgd, map_erase, hTb]
    have hrg := hRT.range hkT
    have hlen := (hRT.lens hkT).2.2
    have HELR : Hid (∀ b ∈ T[k].2.1, m ≤ b ∧ b < hh ∧ b ≠ g) := fun b hb => by have := hRT.rg b (List.mem_flatten.2 ⟨T[k].2.1, List.mem_map.2 ⟨_, List.getElem_mem hkT, rfl⟩, hb⟩); exact ⟨this.1, this.2.1, fun e => this.2.2 (by rw [e]; rfl)⟩
    have hel := hRT.el _ (List.getElem_mem hkT)
    have HONX0 := ow_one hel
    have HND : Hid _ := hRT.nd
    have hle := hRT.own.1
    have HRT : Hid (RowT u2 m hh (.slice (some ⟨g, 0, none⟩) (m1 + 1) vc) T) := hRT
    obtain ⟨cs, hcs⟩ : ∃ cs, cs = T[k].2.2 := ⟨_, rfl⟩
    rw [← hcs] at hrg hlen HONX0
    obtain ⟨e0, e1, e2, e3, e4, e5, e6, e7, e8, e9, e10, e11, hce⟩ := lst12 hlen
    have HCS : Hid (T[k].2.2 = [e0, e1, e2, e3, e4, e5, e6, e7, e8, e9, e10, e11]) := by show _ = _; rw [← hcs, hce]
    obtain ⟨cA, hcA⟩ : ∃ c : Array Value, c = #[e0, e1, e2, e3, e4, e5, e6, e7, e8, e9, e10, e11] := ⟨_, rfl⟩
    have HLX : Hid (cA.size = 12) := by show _ = _; rw [hcA]; rfl
    have HIX2 : Hid ((Try.prog.info? 31).map (·.size) = some cA.size) := by show _ = _; rw [HLX.out]; exact info_SG12
    have HIX : Hid ((Try.prog.info? 31).map (·.size) = some cs.length) := by show _ = _; rw [hlen]; exact info_SG12
    have HIX3 : Hid ((Try.prog.info? 31).map (·.size) = some cA.toList.length) := by show _ = _; rw [Array.length_toList]; exact HIX2.out
    have HONX : Hid (cA.all (·.oneCell') = true) := by show _ = _; rw [show cA = cs.toArray by rw [hcA, hce]]; exact all_oneCell_toArray HONX0
    have HCA : Hid (cs.toArray = cA) := by show _ = _; rw [hcA, hce]
    have HG : Hid (u2.rangeAt g (k * 12) cs) := hrg
    clear hTb hRT hgd hrg hlen hel HONX0 hle hce XO hcs hv
    have hkc : (k : Int) < (m1 : Int) + 1 := by omega
    have hk0 : (0 : Int) ≤ (k : Int) := by omega
    have hwr : IntKind.i64.wrap ((k : Int) + 1) = (k : Int) + 1 := by rw [IntKind.wrap_i64]; omega
    have lXD : m ≤ u2.heap.size := by omega
    have hhu : hh ≤ u2.heap.size := by omega
    have HTH : Hid ((u2.alloc (.cells #[.int .i64 0, .int .i64 0, .bool false, .bool false, .bool false, .int .i64 0, .int .i64 0, .int .i64 0, .int .i64 0, .int .i64 0, .int .i64 0, .slice none 0 0] 31)).there u2.heap.size 0 cA.size) := bx_there (bx_al _ _ _) (fx_al _ _ _) (by rw [HLX.out]; rfl)
    have HWN : Hid (Below u2.heap.size u2 ((u2.alloc (.cells #[.int .i64 0, .int .i64 0, .bool false, .bool false, .bool false, .int .i64 0, .int .i64 0, .int .i64 0, .int .i64 0, .int .i64 0, .int .i64 0, .slice none 0 0] 31)).setCells u2.heap.size 0 cA.toList) ∧ u2.heap.size < ((u2.alloc (.cells #[.int .i64 0, .int .i64 0, .bool false, .bool false, .bool false, .int .i64 0, .int .i64 0, .int .i64 0, .int .i64 0, .int .i64 0, .int .i64 0, .slice none 0 0] 31)).setCells u2.heap.size 0 cA.toList).heap.size ∧ (∀ o, ((u2.alloc (.cells #[.int .i64 0, .int .i64 0, .bool false, .bool false, .bool false, .int .i64 0, .int .i64 0, .int .i64 0, .int .i64 0, .int .i64 0, .int .i64 0, .slice none 0 0] 31)).setCells u2.heap.size 0 cA.toList).cell? ⟨u2.heap.size, o, none⟩ = cA[o]?) ∧ (∀ o, ((u2.alloc (.cells #[.int .i64 0, .int .i64 0, .bool false, .bool false, .bool false, .int .i64 0, .int .i64 0, .int .i64 0, .int .i64 0, .int .i64 0, .int .i64 0, .slice none 0 0] 31)).setCells u2.heap.size 0 cA.toList).frozen? ⟨u2.heap.size, o, none⟩ = false)) := ⟨setCells_below (Nat.le_refl _) _ _ _ _ ((Below.refl _ _).alloc (Nat.le_refl _) _), by rw [setCells_size]; simp, bx_setCells (bx_al u2 _ _) (by rw [HLX.out]; rfl), fx_sets (fx_al _ _ _)⟩
    go_upto_region 6 with (first | (refine wpList_load_mid rfl 31 _ rfl _ _ (by rfl) cs _ HG.out Try.underlying31 rfl HIX.out ?_) | (refine wpList_store_mid rfl 31 _ _ rfl _ _ cA (by rfl) (by rw [← HCA.out]; rfl) HTH.out HIX2.out HONX.out ?_))
    generalize hWW : ((u2.alloc (.cells #[.int .i64 0, .int .i64 0, .bool false, .bool false, .bool false, .int .i64 0, .int .i64 0, .int .i64 0, .int .i64 0, .int .i64 0, .int .i64 0, .slice none 0 0] 31)).setCells u2.heap.size 0 cA.toList) = u3 at HWN ⊢
    clear hWW HTH
    obtain ⟨hb, zP, kP, fP⟩ := HWN.out
    clear HWN
    obtain ⟨bP, hq⟩ : ∃ q, q = u2.heap.size := ⟨_, rfl⟩
    rw [← hq] at zP kP fP ⊢
    have lAP : w.heap.size < bP := by rw [hq]; exact zA
    have lRP : w.heap.size + 1 < bP := by rw [hq]; exact zR
    have lQP : q < bP := by rw [hq]; exact zQ
    have lXDP : m ≤ bP := by omega
    have lwP : w.heap.size ≤ bP := by rw [hq]; exact HB.out.size
    clear hq
    replace kA := bx_below kA zA hb
    replace zA := Nat.lt_of_lt_of_le zA hb.size
    replace kR := bx_below kR zR hb
    replace fR := bxF fR hb zR
    replace zR := Nat.lt_of_lt_of_le zR hb.size
    replace kQ := bx_below kQ zQ hb
    replace fQ := bxF fQ hb zQ
    replace zQ := Nat.lt_of_lt_of_le zQ hb.size
    replace XD : Hid (Own u3 w0 m (bls 69) dead [.slice da' 3 dc]) := Own.below XD.out (by omega) hb
    replace lXD : m ≤ u3.heap.size := Nat.le_trans lXD hb.size
    replace HRT : Hid (RowT u3 m hh (.slice (some ⟨g, 0, none⟩) (m1 + 1) vc) T) := RowT.below HRT.out hb hhu
    replace HB : Hid (Below w.heap.size w u3) := HB.out.trans (hb.mono HB.out.size)
    clear hb
    clear HG HONX HIX HIX2
    go_wp2_with fail
    refine (iDelete HRT.out hTl (by omega)).mono ?_
    rintro e u4 ⟨rfl, hRT4, hblk, hsz, hbl⟩
    replace kR : ∀ o, u4.cell? ⟨w.heap.size + 1, o, none⟩ = (#[.int .i64 0, .int .i64 0, .int .i64 0, .bool false, .bool false, .bool false, .int .i64 0, .int .i64 0, .int .i64 0, .int .i64 0, .int .i64 0, .int .i64 0, .slice none 0 0, .slice none 0 0, .slice none 0 0] : Array Value)[o]? := bx_keep kR (hblk (w.heap.size + 1) (by omega))
    replace fR := fx_blk fR (hblk (w.heap.size + 1) (by omega))
    replace kQ : ∀ o, u4.cell? ⟨q, o, none⟩ = (#[.slice (some ⟨g, 0, none⟩) (m1 + 1) vc, .slice da' 3 dc] : Array Value)[o]? := bx_keep kQ (hblk (q) (by omega))
    replace fQ := fx_blk fQ (hblk (q) (by omega))
    replace kP : ∀ o, u4.cell? ⟨bP, o, none⟩ = cA[o]? := bx_keep kP (hblk (bP) (by omega))
    replace fP := fx_blk fP (hblk (bP) (by omega))
    have el4 : Hid (shSegm.Ow u4 T[k].2.1 T[k].1 T[k].2.2) := Sh.Ow.keep _ _ _ _ (fun b hb => hblk b (HELR.out b hb).2.2) (HRT.out.el _ (List.getElem_mem hkT))
    replace XD : Hid (Own u4 w0 m (bls 69) dead [.slice da' 3 dc]) := Own.below XD.out (Nat.le_refl _) hbl
    have HRT4 : Hid _ := hRT4
    replace HB : Hid (Below w.heap.size w u4) := HB.out.trans (hbl.mono (by omega))
    have zQ4 : q < u4.heap.size := by omega
    have zP4 : bP < u4.heap.size := by omega
    clear hRT4 hblk hbl HRT kA zA zR zQ zP
    go_upto_region 7 with fail
    replace kQ := bx_put kQ (k := 0) (v := .slice (some ⟨g, 0, none⟩) m1 vc) (by simp)
    simp only [List.setIfInBounds_toArray, List.set_cons_zero] at kQ
    replace kR : ∀ o, (u4.setCell ⟨q, 0, none⟩ (.slice (some ⟨g, 0, none⟩) m1 vc)).cell? ⟨w.heap.size + 1, o, none⟩ = (#[.int .i64 0, .int .i64 0, .int .i64 0, .bool false, .bool false, .bool false, .int .i64 0, .int .i64 0, .int .i64 0, .int .i64 0, .int .i64 0, .int .i64 0, .slice none 0 0, .slice none 0 0, .slice none 0 0] : Array Value)[o]? := bx_setC kR (by omega)
    replace fR : ∀ o, (u4.setCell ⟨q, 0, none⟩ (.slice (some ⟨g, 0, none⟩) m1 vc)).frozen? ⟨w.heap.size + 1, o, none⟩ = false := fx_setC fR
    replace kP : ∀ o, (u4.setCell ⟨q, 0, none⟩ (.slice (some ⟨g, 0, none⟩) m1 vc)).cell? ⟨bP, o, none⟩ = cA[o]? := bx_setC kP (by omega)
    have HR5 : Hid (RowT (u4.setCell ⟨q, 0, none⟩ (.slice (some ⟨g, 0, none⟩) m1 vc)) m hh (.slice (some ⟨g, 0, none⟩) m1 vc) (T.eraseIdx k)) := RowT.setp HRT4.out hqh
    have el5 : Hid (shSegm.Ow (u4.setCell ⟨q, 0, none⟩ (.slice (some ⟨g, 0, none⟩) m1 vc)) T[k].2.1 T[k].1 T[k].2.2) := Sh.Ow.keep _ _ _ _ (fun b hb => Below.heap_setCell _ _ _ _ (by dsimp only; have := (HELR.out b hb).2.1; omega)) el4.out
    replace XD : Hid (Own (u4.setCell ⟨q, 0, none⟩ (.slice (some ⟨g, 0, none⟩) m1 vc)) w0 m (bls 69) dead [.slice da' 3 dc]) := Own.keep XD.out (fun b h1 h2 => Below.heap_setCell _ _ _ _ (by dsimp only; omega))
    replace HB : Hid (Below w.heap.size w (u4.setCell ⟨q, 0, none⟩ (.slice (some ⟨g, 0, none⟩) m1 vc))) := Below.setCell (p := ⟨q, 0, none⟩) HB.out (show w.heap.size ≤ q by omega) _
    have hz5 : hh ≤ (u4.setCell ⟨q, 0, none⟩ (.slice (some ⟨g, 0, none⟩) m1 vc)).heap.size := by simp; omega
    generalize hWW : u4.setCell ⟨q, 0, none⟩ (.slice (some ⟨g, 0, none⟩) m1 vc) = u5 at kQ kR fR kP HR5 el5 XD HB hz5 ⊢
    clear hWW HRT4 el4 zQ4 zP4 hsz fQ fP
    have HO : Hid (Own u5 w0 u5.heap.size (shNR 69) (0, T[k].1, ((T.eraseIdx k).map (·.1), dead, ()), ()) (.int .i64 0 :: ([e0, e1, e2, e3, e4, e5, e6, e7, e8, e9, e10, e11] ++ [.slice (some ⟨g, 0, none⟩) m1 vc, .slice da' 3 dc]))) := by have h := Own.mono (own_take hkT HR5.out el5.out HND.out HELR.out XD.out hm1 lh2) (Nat.le_refl _) hz5; rw [HCS.out] at h; exact h
    clear HR5 el5 XD HND HELR HCS
    obtain ⟨N15, hN⟩ : ∃ N : Array Value, N = #[.int .i64 0, e0, e1, e2, e3, e4, e5, e6, e7, e8, e9, e10, e11, .slice (some ⟨g, 0, none⟩) m1 vc, .slice da' 3 dc] := ⟨_, rfl⟩
    have HN15 : Hid _ := hN
    have hNz : N15.size = 15 := by rw [hN]; rfl
    have HNZ15 : Hid (N15.size = 15) := hNz
    have HIN15 : Hid ((Try.prog.info? 33).map (·.size) = some N15.size) := by show _ = _; rw [hNz]; exact info_NR
    have HONE15 : Hid (N15.all (·.oneCell') = true) := rd_all (s := shNR 69) (by rw [hN]; exact HO.out.rd (Nat.le_refl _))
    clear hN hNz
    have HTH : Hid (u5.there (w.heap.size + 1) 0 N15.size) := bx_there kR fR (by rw [HNZ15.out]; rfl)
    have HKR : Hid (∀ o, (u5.setCells (w.heap.size + 1) 0 N15.toList).cell? ⟨w.heap.size + 1, o, none⟩ = N15[o]?) := bx_setCells kR (by rw [HNZ15.out]; rfl)
    subst hcA
    go_wp2_with (first | (refine wpList_load_mid rfl 27 _ rfl _ _ (by rfl) [.slice (some ⟨g, 0, none⟩) m1 vc, .slice da' 3 dc] _ (bx_range kQ) Try.underlying27 rfl info_NT ?_) | (refine wpList_load_mid rfl 31 _ rfl _ _ (by rfl) [e0, e1, e2, e3, e4, e5, e6, e7, e8, e9, e10, e11] _ (bx_range kP) Try.underlying31 rfl info_SG12 ?_) | (refine wpList_store_mid rfl 33 _ _ rfl _ _ N15 (by rfl) (by rw [HN15.out]; rfl) HTH.out HIN15.out HONE15.out ?_))
    refine bodyPost_ret (results_box Try.results15 _ _ _ N15 _ (by rfl) HKR.out Try.underlying33 rfl (by exact HIN15.out)) rfl ⟨N15, rfl, ?_, ?_⟩
    · rw [setCells_size, HN15.out, HV2.out]
      exact (Own.keep HO.out (fun b h1 h2 => setCells_block (by omega) _ _ _)).mono (by omega) (Nat.le_refl _)
    · exact setCells_below (by omega) _ _ _ _ HB.out
  · rw [if_pos hF] at hv
    have h1 : (askF bag dead x1 != 0) = true := by simp [hF]
    have h2 : (askF bag dead x1 == 0) = false := by simp [hF]
    clear HAK
    generalize askF bag dead x1 = q at *
    obtain ⟨N15, hN⟩ : ∃ N : Array Value, N = #[.int .i64 q, .int .i64 0, .int .i64 0, .bool false, .bool false, .bool false, .int .i64 0, .int .i64 0, .int .i64 0, .int .i64 0, .int .i64 0, .int .i64 0, .slice none 0 0, .slice none 0 0, .slice none 0 0] := ⟨_, rfl⟩
    have HN15 : Hid _ := hN
    have hNz : N15.size = 15 := by rw [hN]; rfl
    have HNZ15 : Hid (N15.size = 15) := hNz
    have HIN15 : Hid ((Try.prog.info? 33).map (·.size) = some N15.size) := by show _ = _; rw [hNz]; exact info_NR
    have HONE15 : Hid (N15.all (·.oneCell') = true) := by show _ = _; rw [hN]; simp [Value.oneCell']
    clear hN hNz
    have HTH : Hid (w2.there (w.heap.size + 1) 0 N15.size) := bx_there kR fR (by rw [HNZ15.out]; rfl)
    have HKR : Hid (∀ o, (w2.setCells (w.heap.size + 1) 0 N15.toList).cell? ⟨w.heap.size + 1, o, none⟩ = N15[o]?) := bx_setCells kR (by rw [HNZ15.out]; rfl)
    go_wp2_with (first | (refine wpList_store_mid rfl 33 _ _ rfl _ _ N15 (by rfl) (by rw [HN15.out]; rfl) HTH.out HIN15.out HONE15.out ?_))
    refine bodyPost_ret (results_box Try.results15 _ _ _ N15 _ (by rfl) HKR.out Try.underlying33 rfl (by exact HIN15.out)) rfl ⟨N15, rfl, ?_, ?_⟩
    · rw [setCells_size, HN15.out]
      exact (Own.keep (by rw [hv]; exact own_badN _ w2 (w.heap.size + 2) w2.heap.size HWF.out (by omega)) (fun b h1 h2 => setCells_block (by omega) _ _ _)).mono (by omega) (Nat.le_refl _)
    · exact setCells_below (by omega) _ _ _ _ HB.out
end Go.Proofs.Ytlfncadngcjdjaa
