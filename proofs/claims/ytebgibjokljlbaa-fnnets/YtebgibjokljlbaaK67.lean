/- The program's nets: carriedBy, copyNet; nothing that was in memory turns; the condition is that each path is one of three and there are at most a few million parts. Written by mknet4.py. -/
import Derived.Test.YtebgibjokljlbaaRows
import Derived.Deep.RegionHeld3
import Derived.Deep.DeepCutAuto
import Derived.Deep.DeepMust
import Derived.Deep.MidRow
import Derived.Test.YtebgibjokljlbaaK01
import Derived.Test.YtebgibjokljlbaaK02
import Derived.Test.YtebgibjokljlbaaK03
import Derived.Test.YtebgibjokljlbaaK10
import Derived.Test.YtebgibjokljlbaaK17
import Derived.Test.YtebgibjokljlbaaK20
import Derived.Test.YtebgibjokljlbaaK42
import Derived.Test.YtebgibjokljlbaaK43
import Derived.Test.YtebgibjokljlbaaK55
import Derived.Test.YtebgibjokljlbaaK56
import Derived.Test.YtebgibjokljlbaaK57
import Derived.Test.YtebgibjokljlbaaK64
import Derived.Test.YtebgibjokljlbaaK66
namespace Go.Proofs.Ytebgibjokljlbaa
open Go.RowKit
set_option linter.unusedVariables false
set_option maxRecDepth 8000
theorem iListed (D : Array Value) (hD : D.size = 3) (w : World) :
    Calls Try.prog 102 #[.agg D] w fun e w' => e = .returned (.slice (some ⟨w.heap.size, 0, none⟩) 3 3) ∧ w' = w.alloc (.cells D 104) := by
  go_enter Try.func102, Try.ntmps102
  go_wp2_with fail
  go_ret
  exact ⟨rfl, rfl⟩
set_option maxHeartbeats 8000000 in
theorem iCarriedBy (dead : List Bool) (l : List DSegm) (v : Value) (w : World) (B : Nat) (hr : shSegms.Rd w B l [v]) (hB : B ≤ w.heap.size) (h3 : dead.length = 3) (hl : l.length ≤ 4194304) (hT : ∀ x ∈ l, totSegm x ≤ 1048576) (hP : ∀ x ∈ l, 0 ≤ x.1 ∧ x.1 ≤ 2) :
    Calls Try.prog 61 #[.agg (arr3 dead), v] w fun e w' => ∃ N : Array Value, e = .returned (.agg N) ∧ NetP 104 w' w.heap.size (putN dead [] l) dead N ∧ Below w.heap.size w w' := by
  obtain ⟨a, cap, ev⟩ := row_form hr
  simp only [List.cons.injEq, and_true] at ev
  subst ev
  obtain ⟨n, hn⟩ : ∃ n, l.length = n := ⟨_, rfl⟩
  have HN : Hid (l.length = n) := hn
  have HRd : Hid (∀ W, Below w.heap.size w W → shSegms.Rd W B l [.slice a n cap]) := fun W hW => by have h := Sh.Rd.below hr hB hW; rw [hn] at h; exact h
  rw [hn] at hl ⊢
  have HT : Hid (∀ k (hk : k < l.length), totSegm l[k] ≤ 1048576 ∧ 0 ≤ l[k].1 ∧ l[k].1 ≤ 2) := fun k hk => ⟨hT _ (List.getElem_mem hk), hP _ (List.getElem_mem hk)⟩
  have HDA : Hid (∀ p, p < 3 → (arr3 dead)[p]? = some (.bool (dead.getD p false))) := arr3_at dead
  have HOD : Hid ((arr3 dead).all (·.oneCell') = true) := by show _ = _; unfold arr3; simp [Value.oneCell']
  have HXD : Hid (∀ W : World, Own (W.alloc (.cells (arr3 dead) 104)) W.heap.size (W.heap.size + 1) (bls 104) dead [.slice (some ⟨W.heap.size, 0, none⟩) 3 3]) := fun W => own_dead W _ h3
  have HDZ : Hid ((arr3 dead).size = 3) := rfl
  clear hr hT hP hn
  generalize arr3 dead = D at *
  have HID2 : Hid ((Try.prog.info? 104).map (·.size) = some D.toList.length) := by show _ = _; rw [Array.length_toList, HDZ.out]; exact info_dead
  go_enter Try.func61, Try.ntmps61
  have kD0 : ∀ o, ((w.alloc (.cells D 104)).alloc (.cells #[.slice none 0 0, .slice none 0 0] 44)).cell? ⟨w.heap.size, o, none⟩ = D[o]? := fun o => by simp [go_sem]
  go_wp2_with (refine wpList_load_mid rfl 104 _ rfl _ _ (by rfl) D.toList _ (bx_range kD0) Try.underlying104 rfl HID2.out ?_)
  refine (iListed D HDZ.out _).mono ?_
  rintro e w2 ⟨rfl, hw2⟩
  clear kD0
  have HW2 : Hid (w2 = (((w.alloc (.cells D 104)).alloc (.cells #[.slice none 0 0, .slice none 0 0] 44)).alloc (.cells D 104))) := hw2
  simp only [World.size_alloc]
  clear hw2
  go_upto_region 2 with fail
  rw [HW2.out]
  clear HW2
  have HWC : Hid (Below w.heap.size w ((((w.alloc (.cells D 104)).alloc (.cells #[.slice none 0 0, .slice none 0 0] 44)).alloc (.cells D 104)).alloc (.cells #[.slice none 0 0, .slice (some ⟨w.heap.size + 1 + 1, 0, none⟩) 3 3] 44)) ∧ ((((w.alloc (.cells D 104)).alloc (.cells #[.slice none 0 0, .slice none 0 0] 44)).alloc (.cells D 104)).alloc (.cells #[.slice none 0 0, .slice (some ⟨w.heap.size + 1 + 1, 0, none⟩) 3 3] 44)).heap.size = w.heap.size + 4 ∧ (∀ o, ((((w.alloc (.cells D 104)).alloc (.cells #[.slice none 0 0, .slice none 0 0] 44)).alloc (.cells D 104)).alloc (.cells #[.slice none 0 0, .slice (some ⟨w.heap.size + 1 + 1, 0, none⟩) 3 3] 44)).cell? ⟨w.heap.size, o, none⟩ = D[o]?) ∧ (∀ o, ((((w.alloc (.cells D 104)).alloc (.cells #[.slice none 0 0, .slice none 0 0] 44)).alloc (.cells D 104)).alloc (.cells #[.slice none 0 0, .slice (some ⟨w.heap.size + 1 + 1, 0, none⟩) 3 3] 44)).cell? ⟨w.heap.size + 1, o, none⟩ = (#[.slice none 0 0, .slice none 0 0] : Array Value)[o]?) ∧ (∀ o, ((((w.alloc (.cells D 104)).alloc (.cells #[.slice none 0 0, .slice none 0 0] 44)).alloc (.cells D 104)).alloc (.cells #[.slice none 0 0, .slice (some ⟨w.heap.size + 1 + 1, 0, none⟩) 3 3] 44)).frozen? ⟨w.heap.size + 1, o, none⟩ = false) ∧ (∀ o, ((((w.alloc (.cells D 104)).alloc (.cells #[.slice none 0 0, .slice none 0 0] 44)).alloc (.cells D 104)).alloc (.cells #[.slice none 0 0, .slice (some ⟨w.heap.size + 1 + 1, 0, none⟩) 3 3] 44)).cell? ⟨w.heap.size + 3, o, none⟩ = (#[.slice none 0 0, .slice (some ⟨w.heap.size + 1 + 1, 0, none⟩) 3 3] : Array Value)[o]?) ∧ (∀ o, ((((w.alloc (.cells D 104)).alloc (.cells #[.slice none 0 0, .slice none 0 0] 44)).alloc (.cells D 104)).alloc (.cells #[.slice none 0 0, .slice (some ⟨w.heap.size + 1 + 1, 0, none⟩) 3 3] 44)).frozen? ⟨w.heap.size + 3, o, none⟩ = false) ∧ Own ((((w.alloc (.cells D 104)).alloc (.cells #[.slice none 0 0, .slice none 0 0] 44)).alloc (.cells D 104)).alloc (.cells #[.slice none 0 0, .slice (some ⟨w.heap.size + 1 + 1, 0, none⟩) 3 3] 44)) (w.heap.size + 1 + 1) (w.heap.size + 3) (bls 104) dead [.slice (some ⟨w.heap.size + 1 + 1, 0, none⟩) 3 3]) := ⟨((((Below.refl _ _).alloc (Nat.le_refl _) _).alloc (by simp) _).alloc (by simp; omega) _).alloc (by simp; omega) _, by simp, fun o => by simp [go_sem], fun o => by simp [go_sem], fun o => by simp [go_sem], fun o => by simp [go_sem], fun o => by simp [go_sem], by have h := (HXD.out ((w.alloc (.cells D 104)).alloc (.cells #[.slice none 0 0, .slice none 0 0] 44))).below (by simp) ((Below.refl _ _).alloc (Nat.le_refl _) (.cells #[.slice none 0 0, .slice (some ⟨w.heap.size + 1 + 1, 0, none⟩) 3 3] 44)); simpa using h⟩
  try simp only [World.size_alloc]
  generalize hWW : ((((w.alloc (.cells D 104)).alloc (.cells #[.slice none 0 0, .slice none 0 0] 44)).alloc (.cells D 104)).alloc (.cells #[.slice none 0 0, .slice (some ⟨w.heap.size + 1 + 1, 0, none⟩) 3 3] 44)) = W1 at HWC ⊢
  clear hWW HXD
  obtain ⟨hb, hsz, kD, kR, fR, kQ, fQ, hxd⟩ := HWC.out
  clear HWC
  obtain ⟨q, hq⟩ : ∃ q, q = w.heap.size + 3 := ⟨_, rfl⟩
  rw [show w.heap.size + 1 + 1 + 1 = q by omega]
  rw [← hq] at kQ fQ hxd
  have zq : w.heap.size + 3 ≤ q := by omega
  have z1 : q + 1 ≤ W1.heap.size := by omega
  clear hsz hq
  have XD : Hid (Own W1 (w.heap.size + 1 + 1) q (bls 104) dead [.slice (some ⟨w.heap.size + 1 + 1, 0, none⟩) 3 3]) := hxd
  have HB : Hid (Below w.heap.size w W1) := hb
  clear hb hxd
  go_upto_region 3 with fail
  go_loopw [13] (fun i wr => ∃ (k : Nat) (acc : List DSegm) (va : Option Addr) (vc : Nat), k ≤ n ∧ i = .int .i64 k ∧ Hid (putN dead [] (l.take k) = acc) ∧ (∀ o, wr.cell? ⟨w.heap.size, o, none⟩ = D[o]?) ∧ (∀ o, wr.cell? ⟨w.heap.size + 1, o, none⟩ = (#[.slice none 0 0, .slice none 0 0] : Array Value)[o]?) ∧ (∀ o, wr.frozen? ⟨w.heap.size + 1, o, none⟩ = false) ∧ (∀ o, wr.cell? ⟨q, o, none⟩ = (#[.slice va acc.length vc, .slice (some ⟨w.heap.size + 1 + 1, 0, none⟩) 3 3] : Array Value)[o]?) ∧ (∀ o, wr.frozen? ⟨q, o, none⟩ = false) ∧ Hid (Own wr (q + 1) wr.heap.size shSegms acc [.slice va acc.length vc]) ∧ Hid (Own wr (w.heap.size + 1 + 1) q (bls 104) dead [.slice (some ⟨w.heap.size + 1 + 1, 0, none⟩) 3 3]) ∧ Hid (Below w.heap.size w wr) ∧ q + 1 ≤ wr.heap.size) (fun i _ => n - (intOf i).toNat)
  case atStart => exact ⟨0, [], none, 0, Nat.zero_le _, rfl, (rfl : putN dead [] (l.take 0) = []), kD, kR, fR, kQ, fQ, own_segs0 _ _ _, XD, HB, z1⟩
  case round =>
    clear kD kR fR kQ fQ XD HB z1
    obtain ⟨k, acc, va, vc, hk, rfl, HA, kD, kR, fR, kQ, fQ, XO, XD, HB, z1⟩ := hrel
    have h60 : acc.length ≤ 60 := by rw [← HA.out]; exact putN_le _ _ _
    by_cases hlt : k < n
    · have hkl : k < l.length := by have := HN.out; omega
      obtain ⟨b, off, cs, ha, hb, hlen, hrg, hrs⟩ := row_at (HRd.out wr HB.out) k hkl
      subst ha
      replace hlen : cs.length = 12 := hlen
      replace hrg : wr.rangeAt b (off + k * 12) cs := hrg
      have HTK : Hid (putN dead [] (l.take (k + 1)) = put1 dead acc l[k]) := by show _ = _; rw [putN_take hkl, HA.out]
      obtain ⟨ht, p0, p1⟩ := HT.out k hkl
      have HCF : Hid (∀ W, Below wr.heap.size wr W → Calls Try.prog 103 #[.agg cs.toArray] W fun e w' => ∃ N : Array Value, e = .returned (.agg N) ∧ Own w' W.heap.size w'.heap.size shSegm l[k] N.toList ∧ Below W.heap.size W w') := fun W hW => iCopyA l[k] cs.toArray W B (Sh.Rd.below (s := shSegm) hrs (Nat.le_trans hB HB.out.size) hW) ht
      have hc0 : cs.toArray[0]? = some (.int .i64 l[k].1) := by have := seg_path hrs; rwa [List.getElem?_toArray]
      have HIX : Hid ((Try.prog.info? 48).map (·.size) = some cs.length) := by show _ = _; rw [hlen]; exact info_SG12
      have HIX2 : Hid ((Try.prog.info? 48).map (·.size) = some cs.toArray.size) := by show _ = _; rw [List.size_toArray]; exact HIX.out
      have HIX3 : Hid ((Try.prog.info? 48).map (·.size) = some cs.toArray.toList.length) := HIX
      have HONX : Hid (cs.toArray.all (·.oneCell') = true) := all_oneCell_toArray (rd_one _ _ _ hrs)
      have HLX : Hid (cs.toArray.size = 12) := by show _ = _; rw [List.size_toArray]; exact hlen
      have HG : Hid (wr.rangeAt b (off + k * 12) cs) := hrg
      have HDD : Hid (deadAt dead l[k] = dead.getD l[k].1.toNat false) := rfl
      clear hrs hlen hrg ht HA
      generalize l[k] = x at *
      have hk0 : (0 : Int) ≤ (k : Int) := by omega
      have hkn : (k : Int) < (n : Int) := by omega
      obtain ⟨pn, hpn⟩ : ∃ pn : Nat, x.1 = pn := ⟨x.1.toNat, by omega⟩
      rw [hpn] at hc0
      have q0 : (0 : Int) ≤ (pn : Int) := by omega
      have q1 : (pn : Int) < 3 := by omega
      have hDp : D[pn]? = some (.bool (deadAt dead x)) := by rw [HDA.out pn (by omega), HDD.out, hpn]; rfl
      clear HDD hpn p0 p1
      have HTX : Hid ((wr.alloc (.cells #[.int .i64 0, .int .i64 0, .bool false, .bool false, .bool false, .int .i64 0, .int .i64 0, .int .i64 0, .int .i64 0, .int .i64 0, .int .i64 0, .slice none 0 0] 48)).there wr.heap.size 0 cs.toArray.size) := bx_there (bx_al _ _ _) (fx_al _ _ _) (by rw [HLX.out]; rfl)
      have HW3 : Hid (Below wr.heap.size wr ((wr.alloc (.cells #[.int .i64 0, .int .i64 0, .bool false, .bool false, .bool false, .int .i64 0, .int .i64 0, .int .i64 0, .int .i64 0, .int .i64 0, .int .i64 0, .slice none 0 0] 48)).setCells wr.heap.size 0 cs.toArray.toList) ∧ wr.heap.size < ((wr.alloc (.cells #[.int .i64 0, .int .i64 0, .bool false, .bool false, .bool false, .int .i64 0, .int .i64 0, .int .i64 0, .int .i64 0, .int .i64 0, .int .i64 0, .slice none 0 0] 48)).setCells wr.heap.size 0 cs.toArray.toList).heap.size ∧ (∀ o, ((wr.alloc (.cells #[.int .i64 0, .int .i64 0, .bool false, .bool false, .bool false, .int .i64 0, .int .i64 0, .int .i64 0, .int .i64 0, .int .i64 0, .int .i64 0, .slice none 0 0] 48)).setCells wr.heap.size 0 cs.toArray.toList).cell? ⟨wr.heap.size, o, none⟩ = cs.toArray[o]?)) := ⟨setCells_below (Nat.le_refl _) _ _ _ _ ((Below.refl _ _).alloc (Nat.le_refl _) _), by rw [setCells_size]; simp, bx_setCells (bx_al wr _ _) (by rw [HLX.out]; rfl)⟩
      go_upto_region 5 with (first | (refine wpList_load_mid rfl 48 _ rfl _ _ (by rfl) cs _ HG.out Try.underlying48 rfl HIX.out ?_) | (refine wpList_store_mid rfl 48 _ _ rfl _ _ cs.toArray (by rfl) (by rfl) HTX.out HIX2.out HONX.out ?_))
      generalize hV : ((wr.alloc (.cells #[.int .i64 0, .int .i64 0, .bool false, .bool false, .bool false, .int .i64 0, .int .i64 0, .int .i64 0, .int .i64 0, .int .i64 0, .int .i64 0, .slice none 0 0] 48)).setCells wr.heap.size 0 cs.toArray.toList) = V at HW3 ⊢
      clear hV HTX HG HONX HIX2 HIX
      obtain ⟨hbV, hVz, kP⟩ := HW3.out
      clear HW3
      replace kD := bx_below kD (by omega) hbV
      replace kR := bx_below kR (by omega) hbV
      replace fR := bxF fR hbV (by omega)
      replace kQ := bx_below kQ (by omega) hbV
      replace fQ := bxF fQ hbV (by omega)
      replace XD : Hid (Own V (w.heap.size + 1 + 1) q (bls 104) dead [.slice (some ⟨w.heap.size + 1 + 1, 0, none⟩) 3 3]) := Own.below XD.out (by omega) hbV
      replace HB : Hid (Below w.heap.size w V) := HB.out.trans (hbV.mono HB.out.size)
      obtain ⟨pB, hpB⟩ : ∃ pB, pB = wr.heap.size := ⟨_, rfl⟩
      have HBV : Hid (Below wr.heap.size wr V) := hbV
      replace XO : Hid (Own V (q + 1) pB shSegms acc [.slice va acc.length vc]) := by rw [hpB]; exact Own.below XO.out (Nat.le_refl _) hbV
      have HCG : Hid (∀ W, Below V.heap.size V W → Calls Try.prog 103 #[.agg cs.toArray] W fun e w' => ∃ N : Array Value, e = .returned (.agg N) ∧ Own w' W.heap.size w'.heap.size shSegm x N.toList ∧ Below W.heap.size W w') := fun W hW => HCF.out W (HBV.out.trans (hW.mono (by omega)))
      rw [← hpB] at z1 kP hVz ⊢
      clear hbV HBV hpB HCF
      have z2 : q + 1 ≤ V.heap.size := by omega
      obtain ⟨m, hm⟩ : ∃ m, acc.length = m := ⟨_, rfl⟩
      have HM : Hid (acc.length = m) := hm
      rw [hm] at kQ XO h60
      clear hm
      have HKQ : Hid _ := kQ
      cases hdx : deadAt dead x with
      | true =>
        rw [hdx] at hDp
        go_wp2_with fail
        go_roundw
        case rel => exact ⟨k + 1, acc, va, vc, by omega, by go_num, HTK.out.trans (by unfold put1; rw [if_neg (by simp [hdx])]), kD, kR, fR, by rw [HM.out]; exact HKQ.out, fQ, by rw [HM.out]; exact (Own.mono XO.out (Nat.le_refl _) (by omega)), XD, HB, z2⟩
        case measure => simp [intOf]; omega
      | false =>
        rw [hdx] at hDp
        by_cases h6 : m < 60
        · have h6' : decide ((m : Int) < 60) = true := by simp; omega
          have HTK2 : Hid (putN dead [] (l.take (k + 1)) = acc ++ [x]) := HTK.out.trans (by unfold put1; rw [if_pos ⟨hdx, by rw [HM.out]; exact h6⟩])
          go_upto_region 6 with fail
          clear HKQ HTK hDp hc0 hdx
          obtain ⟨mm, hmm⟩ : ∃ mm, w.heap.size + mm = pB + 1 := ⟨pB + 1 - w.heap.size, by omega⟩
          have HS : Hid (SB2 w mm q pB #[.slice va m vc, .slice (some ⟨w.heap.size + 1 + 1, 0, none⟩) 3 3] cs.toArray V) := ⟨HB.out, by omega, kQ, kP⟩
          clear kQ kP
          refine wp_region_noPanic ?_
          refine Goes.start (S := SB2 w mm q pB #[.slice va m vc, .slice (some ⟨w.heap.size + 1 + 1, 0, none⟩) 3 3] cs.toArray) (z := 7) (by kernel_rfl) ?_
          refine Goes.take (i := 0) (oi := ?oi11) (x := ?vx11) ?ho11 (by kernel_rfl) (by kernel_rfl) (by kernel_rfl) (by kernel_rfl) (fun _ _ _ h => h) (Or.inl ⟨?hw11, ?hy11⟩) HS.out.drew ?rest11
          case ho11 => (simp only [List.getElem?_toArray, List.getElem?_cons_zero] <;> rfl)
          case hw11 => rfl
          case hy11 => (intro w' hSw; have j0 := hSw.k0; have j1 := hSw.k1; go_simp; (try with_reducible rfl))
          case rest11 =>
          (try simp only [Act.put, List.setIfInBounds_toArray, List.set_cons_zero, List.set_cons_succ])
          refine Goes.take (i := 1) (oi := ?oi12) (x := ?vx12) ?ho12 (by kernel_rfl) (by kernel_rfl) (by kernel_rfl) (by kernel_rfl) (fun _ _ _ h => h) (Or.inl ⟨?hw12, ?hy12⟩) HS.out.drew ?rest12
          case ho12 => (simp only [List.getElem?_toArray, List.getElem?_cons_succ, List.getElem?_cons_zero] <;> rfl)
          case hw12 => rfl
          case hy12 => (intro w' hSw; have j0 := hSw.k0; have j1 := hSw.k1; go_simp; (try with_reducible rfl))
          case rest12 =>
          (try simp only [Act.put, List.setIfInBounds_toArray, List.set_cons_zero, List.set_cons_succ])
          refine Goes.take (i := 2) (oi := ?oi13) (x := .agg (cs.toArray.toList).toArray) ?ho13 (by kernel_rfl) (by kernel_rfl) (by kernel_rfl) (by kernel_rfl) (fun _ _ _ h => h) ?hy13 HS.out.drew ?rest13
          case ho13 => (simp only [List.getElem?_toArray, List.getElem?_cons_succ, List.getElem?_cons_zero] <;> rfl)
          case hy13 => exact yieldsIf_load_mid (by rfl) 48 _ rfl (pB) (0) (by rfl) (cs.toArray.toList) _ (fun w' hSw => bx_range hSw.k1) Try.underlying48 rfl HIX3.out
          case rest13 =>
          (try simp only [Act.put, List.setIfInBounds_toArray, List.set_cons_zero, List.set_cons_succ])
          refine Goes.all (rs := [3]) (by kernel_rfl) (by simp) ?_
          refine Ups.cons (i := 3) (o := ?oo14) ?ho14 (fun KK hKK => ?stp14) Ups.nil
          case ho14 => (simp only [List.getElem?_toArray, List.getElem?_cons_succ, List.getElem?_cons_zero] <;> rfl)
          case stp14 =>
          go_simp
          go_at_call 103
          refine (HCG.out _ (Below.drew (Below.refl _ _))).mono ?_
          rintro e w2 ⟨N, rfl, ho2, hbq⟩
          have HS6 : Hid (SB2 w mm q pB #[.slice va m vc, .slice (some ⟨w.heap.size + 1 + 1, 0, none⟩) 3 3] cs.toArray w2) := SB2.below HS.out.drew hbq (by omega) (by omega)
          replace hbq := (Below.drew (Below.refl V.heap.size V)).trans hbq
          have HE1 : Hid (Own w2 V.heap.size w2.heap.size shSegm x N.toList) := ho2
          have HNZ : Hid (N.size = 12) := rd_size (s := shSegm) (ho2.rd (Nat.le_refl _))
          have HOW : Hid (Own w2 (q + 1) pB shSegms acc [.slice va m vc]) := Own.below XO.out (by omega) hbq
          replace XD : Hid (Own w2 (w.heap.size + 1 + 1) q (bls 104) dead [.slice (some ⟨w.heap.size + 1 + 1, 0, none⟩) 3 3]) := Own.below XD.out (by omega) hbq
          replace kD := bx_below kD (by omega) hbq
          replace kR := bx_below kR (by omega) hbq
          replace fR := bxF fR hbq (by omega)
          replace fQ := bxF fQ hbq (by omega)
          have hz2 := hbq.size
          clear ho2 hbq XO HCG
          dsimp only
          refine hKK.out _ _ (Or.inr HS6.out) ?_
          clear hKK KK
          (try simp only [Act.put, List.setIfInBounds_toArray, List.set_cons_zero, List.set_cons_succ])
          obtain ⟨e0, e1, e2, e3, e4, e5, e6, e7, e8, e9, e10, e11, hN⟩ := arr12 HNZ.out
          subst hN
          refine Goes.all (rs := [4]) (by kernel_rfl) (by simp) ?_
          refine Ups.cons (i := 4) (o := ?oo15) ?ho15 (fun KK hKK => ?stp15) Ups.nil
          case ho15 => (simp only [List.getElem?_toArray, List.getElem?_cons_succ, List.getElem?_cons_zero] <;> rfl)
          case stp15 =>
          go_simp
          refine hKK.out _ _ (Or.inr (SB2.alloc HS6.out _ (by omega) (by omega))) ?_
          clear hKK KK
          (try simp only [Act.put, List.setIfInBounds_toArray, List.set_cons_zero, List.set_cons_succ])
          refine Goes.all (rs := [5]) (by kernel_rfl) (by simp) ?_
          refine Ups.cons (i := 5) (o := ?oo16) ?ho16 (fun KK hKK => ?stp16) Ups.nil
          case ho16 => (simp only [List.getElem?_toArray, List.getElem?_cons_succ, List.getElem?_cons_zero] <;> rfl)
          case stp16 =>
          refine app_elem_st w2 (by rfl) _ _ 41 48 (by rfl) shSegm (.agg #[.int .i64 0, .int .i64 0, .bool false, .bool false, .bool false, .int .i64 0, .int .i64 0, .int .i64 0, .int .i64 0, .int .i64 0, .int .i64 0, .slice none 0 0]) 96 Try.underlying41 info_SZ rfl (by decide) (by decide) (q + 1) pB V.heap.size w2.heap.size acc (.slice va m vc) (by rfl) w2.heap.size rfl (by rfl) HOW.out x [e0, e1, e2, e3, e4, e5, e6, e7, e8, e9, e10, e11] HE1.out z1 (by omega) (Nat.le_refl _) (by rw [HM.out]; omega) (by omega) ?_
          intro v3 w3' ho3 hb3 hk3 hs3
          obtain ⟨va3, vc3, hv3⟩ := row_form (ho3.rd (Nat.le_refl _))
          simp only [List.cons.injEq, and_true, List.length_append, List.length_cons, List.length_nil, HM.out] at hv3
          subst hv3
          have HO3 : Hid (Own w3' (q + 1) w3'.heap.size shSegms (acc ++ [x]) [.slice va3 (m + 1) vc3]) := ho3
          have hno : (Value.slice va m vc).ownBlock ≠ some pB := fun e => by have := HOW.out.blk e; omega
          have HS9 : Hid (SB2 w mm q pB #[.slice va m vc, .slice (some ⟨w.heap.size + 1 + 1, 0, none⟩) 3 3] cs.toArray w3') := ⟨HS6.out.bl.trans (hb3.mono (by omega)), Nat.le_trans HS6.out.sz (Nat.le_of_lt hs3), bxC HS6.out.k0 hb3 (show q < q + 1 by omega), fun o => (World.cell?_of_block (hk3 pB (by have := HS6.out.sz; omega) hno)).trans (HS6.out.k1 o)⟩
          replace XD : Hid (Own w3' (w.heap.size + 1 + 1) q (bls 104) dead [.slice (some ⟨w.heap.size + 1 + 1, 0, none⟩) 3 3]) := Own.below XD.out (show q ≤ q + 1 by omega) hb3
          replace kD := bxC kD hb3 (show w.heap.size < q + 1 by omega)
          replace kR := bxC kR hb3 (show w.heap.size + 1 < q + 1 by omega)
          replace fR := fxC fR hb3 (show w.heap.size + 1 < q + 1 by omega)
          replace fQ := fxC fQ hb3 (show q < q + 1 by omega)
          have hz3 : q + 1 ≤ w3'.heap.size := by omega
          clear ho3 hb3 hk3 HOW HE1 hs3
          refine hKK.out _ _ (Or.inr HS9.out) ?_
          clear hKK KK
          (try simp only [Act.put, List.setIfInBounds_toArray, List.set_cons_zero, List.set_cons_succ])
          refine Goes.take (i := 6) (oi := ?oi17) (x := ?vx17) ?ho17 (by kernel_rfl) (by kernel_rfl) (by kernel_rfl) (by kernel_rfl) (fun _ _ _ h => h) (Or.inl ⟨?hw17, ?hy17⟩) HS9.out ?rest17
          case ho17 => (simp only [List.getElem?_toArray, List.getElem?_cons_succ, List.getElem?_cons_zero] <;> rfl)
          case hw17 => rfl
          case hy17 => (intro w' hSw; have j0 := hSw.k0; have j1 := hSw.k1; go_simp; (try with_reducible rfl))
          case rest17 =>
          (try simp only [Act.put, List.setIfInBounds_toArray, List.set_cons_zero, List.set_cons_succ])
          refine Goes.all (rs := [7]) (by kernel_rfl) (by simp) ?_
          refine Ups.cons (i := 7) (o := ?oo18) ?ho18 (fun KK hKK => ?stp18) Ups.nil
          case ho18 => (simp only [List.getElem?_toArray, List.getElem?_cons_succ, List.getElem?_cons_zero] <;> rfl)
          case stp18 =>
          have kQ := HS9.out.k0
          go_simp
          refine hKK.out _ _ (Or.inl rfl) ?_
          clear hKK KK
          (try simp only [Act.put])
          refine Goes.done (by kernel_rfl) ?_ _
          refine NoPanic.normal ?_
          go_wp2_with fail
          replace kQ := bx_put kQ (k := 0) (v := .slice va3 (m + 1) vc3) (by simp)
          simp only [List.setIfInBounds_toArray, List.set_cons_zero] at kQ
          go_roundw
          case rel => exact ⟨k + 1, acc ++ [x], va3, vc3, by omega, by go_num, HTK2, bx_setC kD (show w.heap.size ≠ q by omega), bx_setC kR (show w.heap.size + 1 ≠ q by omega), fx_setC fR, by rw [List.length_append, List.length_singleton, HM.out]; exact kQ, fx_setC fQ, by rw [List.length_append, List.length_singleton, HM.out]; exact Own.mono (Own.keep HO3.out fun b h1 h2 => Below.heap_setCell _ _ _ _ (by dsimp only; omega)) (Nat.le_refl _) (by simp), Own.keep XD.out (fun b h1 h2 => Below.heap_setCell _ _ _ _ (by dsimp only; omega)), Below.setCell (p := ⟨q, 0, none⟩) HS9.out.bl (show w.heap.size ≤ q by omega) _, by simp; omega⟩
          case measure => simp [intOf]; omega
        · have h6' : decide ((m : Int) < 60) = false := by simp; omega
          go_wp2_with fail
          go_roundw
          case rel => exact ⟨k + 1, acc, va, vc, by omega, by go_num, HTK.out.trans (by unfold put1; rw [if_neg (by rw [HM.out]; omega)]), kD, kR, fR, by rw [HM.out]; exact HKQ.out, fQ, by rw [HM.out]; exact (Own.mono XO.out (Nat.le_refl _) (by omega)), XD, HB, z2⟩
          case measure => simp [intOf]; omega
    · obtain rfl : k = n := by omega
      have HA2 : Hid (putN dead [] l = acc) := by have h := HA.out; rw [← HN.out, List.take_length] at h; exact h
      obtain ⟨N, hN⟩ : ∃ N : Array Value, N = #[.slice va acc.length vc, .slice (some ⟨w.heap.size + 1 + 1, 0, none⟩) 3 3] := ⟨_, rfl⟩
      have HNP : Hid (NetP 104 wr (w.heap.size + 1 + 1) (putN dead [] l) dead N) := by rw [HA2.out]; exact ⟨q, _, _, _, _, by rw [hN, h3], by rw [h3]; exact XD.out, Own.mono XO.out (by omega) (Nat.le_refl _), by omega, by omega⟩
      have hNz : N.size = 2 := by rw [hN]; rfl
      have HIN : Hid ((Try.prog.info? 44).map (·.size) = some N.size) := by show _ = _; rw [hNz]; exact info_NT
      have HIN2 : Hid ((Try.prog.info? 44).map (·.size) = some N.toList.length) := by show _ = _; rw [Array.length_toList]; exact HIN.out
      have HONE : Hid (N.all (·.oneCell') = true) := by show _ = _; rw [hN]; simp [Value.oneCell']
      rw [← hN] at kQ
      have HTH : Hid (wr.there (w.heap.size + 1) 0 N.size) := bx_there kR fR (by rw [hNz]; rfl)
      have HKR : Hid (∀ o, (wr.setCells (w.heap.size + 1) 0 N.toList).cell? ⟨w.heap.size + 1, o, none⟩ = N[o]?) := bx_setCells kR (by rw [hNz]; rfl)
      clear hN hNz XO XD kR fR kD
      go_wp2_with (first | (refine wpList_load_mid rfl 44 _ rfl _ _ (by rfl) N.toList _ (bx_range kQ) Try.underlying44 rfl HIN2.out ?_) | (refine wpList_store_mid rfl 44 _ _ rfl _ _ N (by rfl) (by rfl) HTH.out HIN.out HONE.out ?_))
      refine bodyPost_ret (results_box Try.results61 _ _ _ N _ (by rfl) HKR.out Try.underlying44 rfl (by exact HIN.out)) rfl ⟨N, rfl, ?_, ?_⟩
      · exact NetP.keep HNP.out (by omega) (fun b hb => setCells_block (by omega) _ _ _) (by rw [setCells_size])
      · exact setCells_below (by omega) _ _ _ _ HB.out
end Go.Proofs.Ytebgibjokljlbaa
