/- CopyNet by program and model; nothing that was in memory turns; the condition is that there are at most a million parts. Written by mknet13.py. -/
import Derived.Test.YtebgibjokljlbaaRows
import Derived.Deep.RegionHeld3
import Derived.Deep.DeepCutAuto
import Derived.Deep.DeepMust
import Derived.Deep.MidRow
import Derived.Test.YtebgibjokljlbaaK01
import Derived.Test.YtebgibjokljlbaaK02
import Derived.Test.YtebgibjokljlbaaK03
import Derived.Test.YtebgibjokljlbaaK10
import Derived.Test.YtebgibjokljlbaaK17
import Derived.Test.YtebgibjokljlbaaK20
import Derived.Test.YtebgibjokljlbaaK42
import Derived.Test.YtebgibjokljlbaaK43
import Derived.Test.YtebgibjokljlbaaK55
import Derived.Test.YtebgibjokljlbaaK56
import Derived.Test.YtebgibjokljlbaaK57
import Derived.Test.YtebgibjokljlbaaK64
import Derived.Test.YtebgibjokljlbaaK66
import Derived.Test.YtebgibjokljlbaaK67
import Derived.Test.YtebgibjokljlbaaK93
import Derived.Test.YtebgibjokljlbaaK94
import Derived.Test.YtebgibjokljlbaaK95
namespace Go.Proofs.Ytebgibjokljlbaa
open Go.RowKit
set_option linter.unusedVariables false
set_option maxRecDepth 8000
def copV (g : DNet) (x : Int) : DNR := if askF g.1 g.2.1 x ≠ 0 then badN (askF g.1 g.2.1 x) else if 60 ≤ g.1.length then badN 2 else (0, zSg, (g.1 ++ [g.1.getD x.toNat zSg], g.2.1, ()), ())
theorem copV_tot {g : DNet} (x : Int) (h : totNet g ≤ 1048576) : totNR (copV g x) ≤ 1048576 := by
  unfold copV
  by_cases h1 : askF g.1 g.2.1 x = 0
  · rw [if_neg (by simp [h1])]
    obtain ⟨hN, h0, hn⟩ := askF_ok h1
    obtain ⟨h60, h3, hok⟩ := netF_ok hN
    by_cases h2 : 60 ≤ g.1.length
    · rw [if_pos h2, tot_badN]; omega
    · rw [if_neg h2]
      show 0 + (totSegms (g.1 ++ [g.1.getD x.toNat zSg]) + g.2.1.length) ≤ _
      rw [totSegms_app]
      have hx : x.toNat < g.1.length := by omega
      have e : g.1.getD x.toNat zSg = g.1[x.toNat] := by rw [List.getD_eq_getElem?_getD, List.getElem?_eq_getElem hx]; rfl
      have h8 := (sgF_ok (hok _ (List.getElem_mem hx)).1).2.2
      have e3 : totSegms [g.1.getD x.toNat zSg] = 1 + totSegm g.1[x.toNat] := by rw [e]; simp [totSegms, fsum]
      have h4 : totSegms g.1 ≤ 9 * g.1.length := by
        have key : ∀ l : List DSegm, (∀ y ∈ l, totSegm y ≤ 8) → totSegms l ≤ 9 * l.length := by
          intro l
          induction l with
          | nil => intro _; simp [totSegms, fsum]
          | cons y r ih =>
            intro hy
            have i1 := ih (fun z hz => hy z (List.mem_cons_of_mem _ hz))
            have i2 : totSegms (y :: r) = totSegms [y] + totSegms r := totSegms_app [y] r
            have i3 : totSegms [y] = 1 + totSegm y := by simp [totSegms, fsum]
            have i4 := hy y (by simp)
            simp only [List.length_cons]; omega
        exact key g.1 (fun y hy => (sgF_ok (hok y hy).1).2.2)
      omega
  · rw [if_pos h1, tot_badN]; omega
theorem tot_one (x : DSegm) : totSegms [x] = 1 + totSegm x := by simp [totSegms, fsum]
theorem cop_put {bag : List DSegm} {dead : List Bool} {k : Nat} (hN : netF bag dead = 0) (hk : k < bag.length) (h6 : ¬ bag.length = 60) : putV (bag, dead, ()) [bag[k]] = (0, zSg, (bag ++ [bag[k]], dead, ()), ()) := by
  obtain ⟨h60, h3, hok⟩ := netF_ok hN
  have hx := hok _ (List.getElem_mem hk)
  generalize bag[k] = x at *
  have hf : firstF [x] = 0 := by
    have e : firstF [x] = if sgF x ≠ 0 then sgF x else 0 := rfl
    rw [e, if_neg (by simp [hx.1])]
  have e5 : putN dead bag [x] = bag ++ [x] := putN_all [x] bag (fun z hz => by rw [List.mem_singleton] at hz; subst hz; exact hx.2) (by simp; omega)
  have e0 : putV (bag, dead, ()) [x] = if netF bag dead ≠ 0 then badN (netF bag dead) else if firstF [x] ≠ 0 then badN (firstF [x]) else (0, zSg, (putN dead bag [x], dead, ()), ()) := rfl
  rw [e0, if_neg (by simp [hN]), if_neg (by simp [hf]), e5]
theorem rd_at1 {w : World} {B b off k cap : Nat} {x : DSegm} {cs : List Value} (hlen : cs.length = shSegm.sz) (hrg : w.rangeAt b (off + k * shSegm.sz) cs) (hrs : shSegm.Rd w B x cs) (hb : b < B) (h1 : 1 ≤ cap - k) (h2 : cap - k ≤ 9223372036854775807) : shSegms.Rd w B [x] [.slice (some ⟨b, off + k * 12, none⟩) 1 (cap - k)] := by
  refine ⟨_, cap - k, rfl, ⟨h1, by unfold maxLen; omega⟩, fun h => by simp at h, b, off + k * 12, fun _ => ⟨rfl, hb⟩, fun i hi => ?_⟩
  have hi0 : i = 0 := by simp at hi; exact hi
  subst hi0
  refine ⟨cs, hlen, fun j hj => ?_, hrs⟩
  have hj2 : j < cs.length := by omega
  have h := hrg j _ (List.getElem?_eq_getElem hj2)
  rw [List.getElem?_eq_getElem hj2, Nat.zero_mul, Nat.add_zero]
  exact h
set_option maxHeartbeats 8000000 in
theorem iCopyNetA (x0 : DNet) (A : Array Value) (x1 : Int) (w : World) (B : Nat) (hr : shNet.Rd w B x0 A.toList) (hT : totNet x0 ≤ 1048576) (hB : B ≤ w.heap.size) :
    Calls Try.prog 25 #[.agg A, .int .i64 x1] w fun e w' => ∃ N : Array Value, e = .returned (.agg N) ∧ Own w' w.heap.size w'.heap.size (shNR 104) (copV x0 x1) N.toList ∧ Below w.heap.size w w' := by
  obtain ⟨bag, dead, ⟨⟩⟩ := x0
  obtain ⟨a, cap, da, dcap, eA, rb, rdd⟩ := rd_Net hr
  have a0 : A[0]? = some (.slice a bag.length cap) := get_of eA 0
  have a1 : A[1]? = some (.slice da dead.length dcap) := get_of eA 1
  have HRb : Hid (∀ W, Below w.heap.size w W → shSegms.Rd W B bag [.slice a bag.length cap]) := fun W hW => Sh.Rd.below rb hB hW
  have HRd : Hid (∀ W, Below w.heap.size w W → (bls 4).Rd W B dead [.slice da dead.length dcap]) := fun W hW => Sh.Rd.below rdd hB hW
  have eA2 := arr_of eA
  have HA2 : Hid (A = #[.slice a bag.length cap, .slice da dead.length dcap]) := eA2
  have HIA : Hid ((Try.prog.info? 44).map (·.size) = some A.toList.length) := by show _ = _; rw [eA]; exact info_NT
  have ht : totSegms bag + dead.length ≤ 1048576 := hT
  have HAK : Hid (∀ W, Below w.heap.size w W → Calls Try.prog 70 #[.agg A, .int .i64 x1] W fun e w' => e = .returned (.int .i64 (askF bag dead x1)) ∧ Below W.heap.size W w') := fun W hW => by rw [HA2.out]; exact iPlaceFault _ bag dead x1 _ _ W B (HRb.out W hW) (HRd.out W hW) (Nat.le_trans hB hW.size)
  obtain ⟨V, hV⟩ : ∃ V, V = copV (bag, dead, ()) x1 := ⟨_, rfl⟩
  rw [← hV]
  have HV : Hid (V = if askF bag dead x1 ≠ 0 then badN (askF bag dead x1) else if 60 ≤ bag.length then badN 2 else (0, zSg, (bag ++ [bag.getD x1.toNat zSg], dead, ()), ())) := hV
  have HWF : Hid _ := askF_wf bag dead x1
  have hmx : bag.length ≤ 1048576 := by unfold totSegms at ht; omega
  have HRA : Hid (∀ W, Below w.heap.size w W → shNet.Rd W B (bag, dead, ()) A.toList) := fun W hW => Sh.Rd.below hr hB hW
  clear hV eA eA2 rb rdd hr hT
  have HWA : Hid (Below w.heap.size w ((w.alloc (.cells A 44)).alloc (.cells #[.int .i64 0, .int .i64 0, .int .i64 0, .bool false, .bool false, .bool false, .int .i64 0, .int .i64 0, .int .i64 0, .int .i64 0, .int .i64 0, .int .i64 0, .slice none 0 0, .slice none 0 0, .slice none 0 0] 50)) ∧ ((w.alloc (.cells A 44)).alloc (.cells #[.int .i64 0, .int .i64 0, .int .i64 0, .bool false, .bool false, .bool false, .int .i64 0, .int .i64 0, .int .i64 0, .int .i64 0, .int .i64 0, .int .i64 0, .slice none 0 0, .slice none 0 0, .slice none 0 0] 50)).heap.size = w.heap.size + 2 ∧ (∀ o, ((w.alloc (.cells A 44)).alloc (.cells #[.int .i64 0, .int .i64 0, .int .i64 0, .bool false, .bool false, .bool false, .int .i64 0, .int .i64 0, .int .i64 0, .int .i64 0, .int .i64 0, .int .i64 0, .slice none 0 0, .slice none 0 0, .slice none 0 0] 50)).cell? ⟨w.heap.size, o, none⟩ = (A : Array Value)[o]?) ∧ (∀ o, ((w.alloc (.cells A 44)).alloc (.cells #[.int .i64 0, .int .i64 0, .int .i64 0, .bool false, .bool false, .bool false, .int .i64 0, .int .i64 0, .int .i64 0, .int .i64 0, .int .i64 0, .int .i64 0, .slice none 0 0, .slice none 0 0, .slice none 0 0] 50)).cell? ⟨w.heap.size + 1, o, none⟩ = (#[.int .i64 0, .int .i64 0, .int .i64 0, .bool false, .bool false, .bool false, .int .i64 0, .int .i64 0, .int .i64 0, .int .i64 0, .int .i64 0, .int .i64 0, .slice none 0 0, .slice none 0 0, .slice none 0 0] : Array Value)[o]?) ∧ (∀ o, ((w.alloc (.cells A 44)).alloc (.cells #[.int .i64 0, .int .i64 0, .int .i64 0, .bool false, .bool false, .bool false, .int .i64 0, .int .i64 0, .int .i64 0, .int .i64 0, .int .i64 0, .int .i64 0, .slice none 0 0, .slice none 0 0, .slice none 0 0] 50)).frozen? ⟨w.heap.size + 1, o, none⟩ = false)) := ⟨(((Below.refl _ _).alloc (Nat.le_refl _) _).alloc (by simp) _), by simp, fun o => by simp [go_sem], fun o => by simp [go_sem], fun o => by simp [go_sem]⟩
  go_enter Try.func25, Try.ntmps25
  go_upto_region 1 with fail
  generalize hWW : ((w.alloc (.cells A 44)).alloc (.cells #[.int .i64 0, .int .i64 0, .int .i64 0, .bool false, .bool false, .bool false, .int .i64 0, .int .i64 0, .int .i64 0, .int .i64 0, .int .i64 0, .int .i64 0, .slice none 0 0, .slice none 0 0, .slice none 0 0] 50)) = W1 at HWA ⊢
  clear hWW
  obtain ⟨hb, hsz, kA, kR, fR⟩ := HWA.out
  clear HWA
  have HB : Hid (Below w.heap.size w W1) := hb
  have zA : w.heap.size < W1.heap.size := by omega
  have zR : w.heap.size + 1 < W1.heap.size := by omega
  clear hb hsz
  go_wp2_with (refine wpList_load_mid rfl 44 _ rfl _ _ (by rfl) A.toList _ (bx_range kA) Try.underlying44 rfl HIA.out ?_)
  refine (HAK.out _ HB.out).mono ?_
  rintro e w2 ⟨rfl, hb⟩
  replace kA := bx_below kA zA hb
  replace zA := Nat.lt_of_lt_of_le zA hb.size
  replace kR := bx_below kR zR hb
  replace fR := bxF fR hb zR
  replace zR := Nat.lt_of_lt_of_le zR hb.size
  replace HB : Hid (Below w.heap.size w w2) := HB.out.trans (hb.mono HB.out.size)
  clear hb
  have hv := HV.out
  clear HV
  by_cases hF : askF bag dead x1 = 0
  · rw [if_neg (by simp [hF])] at hv
    obtain ⟨hN0, hx0, hxn⟩ := askF_ok hF
    obtain ⟨h60, h3, hok⟩ := netF_ok hN0
    have HOK : Hid (∀ x ∈ bag, totSegm x ≤ 8 ∧ sgF x = 0) := fun x hx => by have := sgF_ok (hok x hx).1; exact ⟨by omega, (hok x hx).1⟩
    rw [hF]
    obtain ⟨k, hk⟩ : ∃ k : Nat, x1 = k := ⟨x1.toNat, by omega⟩
    have hkn : k < bag.length := by omega
    have HD3 : Hid (dead.length = 3) := h3
    have HCP : Hid (∀ W, Below w.heap.size w W → Calls Try.prog 71 #[.agg A] W fun e w' => ∃ N : Array Value, e = .returned (.agg N) ∧ NetP 104 w' W.heap.size bag dead N ∧ Below W.heap.size W w') := fun W hW => by rw [HA2.out]; exact iCopyNet _ bag dead _ _ W B (HRb.out W hW) (HRd.out W hW) (Nat.le_trans hB hW.size) hN0
    have HN00 : Hid (netF bag dead = 0) := hN0
    clear hok HAK hF hN0
    have e1 : x1.toNat = k := by omega
    rw [e1] at hv
    have hgd : bag.getD k zSg = bag[k] := by rw [List.getD_eq_getElem?_getD, List.getElem?_eq_getElem hkn]; rfl
    rw [hgd] at hv
    clear HCP
    by_cases h6 : bag.length = 60
    · rw [if_pos (by omega)] at hv
      have h6' : ((bag.length : Int) == 60) = true := by simp; omega
      clear HRb HRd HOK hgd
      generalize bag.length = nb at *
      obtain ⟨N15, hN⟩ : ∃ N : Array Value, N = #[.int .i64 2, .int .i64 0, .int .i64 0, .bool false, .bool false, .bool false, .int .i64 0, .int .i64 0, .int .i64 0, .int .i64 0, .int .i64 0, .int .i64 0, .slice none 0 0, .slice none 0 0, .slice none 0 0] := ⟨_, rfl⟩
      have HN15 : Hid _ := hN
      have hNz : N15.size = 15 := by rw [hN]; rfl
      have HNZ15 : Hid (N15.size = 15) := hNz
      have HIN15 : Hid ((Try.prog.info? 50).map (·.size) = some N15.size) := by show _ = _; rw [hNz]; exact info_NR
      have HONE15 : Hid (N15.all (·.oneCell') = true) := by show _ = _; rw [hN]; simp [Value.oneCell']
      clear hN hNz
      have HTH : Hid (w2.there (w.heap.size + 1) 0 N15.size) := bx_there kR fR (by rw [HNZ15.out]; rfl)
      have HKR : Hid (∀ o, (w2.setCells (w.heap.size + 1) 0 N15.toList).cell? ⟨w.heap.size + 1, o, none⟩ = N15[o]?) := bx_setCells kR (by rw [HNZ15.out]; rfl)
      go_wp2_with (first | (refine wpList_store_mid rfl 50 _ _ rfl _ _ N15 (by rfl) (by rw [HN15.out]; rfl) HTH.out HIN15.out HONE15.out ?_))
      refine bodyPost_ret (results_box Try.results25 _ _ _ N15 _ (by rfl) HKR.out Try.underlying50 rfl (by exact HIN15.out)) rfl ⟨N15, rfl, ?_, ?_⟩
      · rw [setCells_size, HN15.out]
        exact (Own.keep (by rw [hv]; exact own_badN _ w2 (w.heap.size + 2) w2.heap.size (by decide) (by omega)) (fun b h1 h2 => setCells_block (by omega) _ _ _)).mono (by omega) (Nat.le_refl _)
      · exact setCells_below (by omega) _ _ _ _ HB.out
    · rw [if_neg (by omega)] at hv
      have h6' : ((bag.length : Int) == 60) = false := by simp; omega
      obtain ⟨b, off, cs, ha, hb0, hlen, hrg, hrs⟩ := row_at (HRb.out w (Below.refl _ _)) k hkn
      subst ha
      have hc63 : bag.length ≤ cap ∧ cap ≤ 9223372036854775807 := by have h := HRb.out w (Below.refl _ _); obtain ⟨a', c', q1, q2, -⟩ := h; simp only [List.cons.injEq, Value.slice.injEq, and_true] at q1; obtain ⟨-, -, rfl⟩ := q1; unfold maxLen at q2; omega
      have hs0 := (HOK.out bag[k] (List.getElem_mem hkn)).2
      have ht8 := (HOK.out bag[k] (List.getElem_mem hkn)).1
      have HVV : Hid (putV (bag, dead, ()) [bag[k]] = V) := by show _ = _; rw [hv]; exact cop_put HN00.out hkn h6
      have hrsl : shSegms.Rd w B [bag[k]] [.slice (some ⟨b, off + k * 12, none⟩) 1 (cap - k)] := rd_at1 hlen hrg hrs hb0 (by omega) (by omega)
      have htl : totSegms [bag[k]] ≤ 1048576 := by rw [tot_one]; omega
      have HPN : Hid (∀ W, Below w.heap.size w W → Calls Try.prog 20 #[.agg A, .slice (some ⟨b, off + k * 12, none⟩) 1 (cap - k)] W fun e w' => ∃ N : Array Value, e = .returned (.agg N) ∧ Own w' W.heap.size w'.heap.size (shNR 104) V N.toList ∧ Below W.heap.size W w') := fun W hW => by rw [← HVV.out]; exact iPutNetA (bag, dead, ()) A [bag[k]] _ W B (HRA.out W hW) ht (Sh.Rd.below hrsl hB hW) htl (Nat.le_trans hB hW.size)
      clear hv HVV hrsl htl hrs hrg hlen hs0 ht8 HOK HRb HRd HA2 HRA hgd e1
      generalize bag.length = nb at *
      subst hk
      have hkc : (k : Int) < (nb : Int) := by omega
      have hk0 : (0 : Int) ≤ (k : Int) := by omega
      obtain ⟨c63, c64⟩ := hc63
      have zw2 := HB.out.size
      go_upto_region 6 with fail
      have hwr : IntKind.i64.wrap ((k : Int) + 1) = (k : Int) + 1 := by rw [IntKind.wrap_i64]; omega
      have hcp0 : (0 : Int) ≤ (k : Int) + 1 := by omega
      have hcp1 : (k : Int) + 1 ≤ (cap : Int) := by omega
      have htn : ((k : Int) + 1).toNat = k + 1 := by omega
      have hck : ¬ cap = k := by omega
      have hck2 : k ≤ k + 1 := by omega
      have hck3 : k + 1 - k = 1 := by omega
      refine wp_region_noPanic ?_
      refine Goes.start (S := fun w' => Below w2.heap.size w2 w') (z := 8) (by kernel_rfl) ?_
      refine Goes.take (i := 0) (oi := ?oi11) (x := .agg (A.toList).toArray) ?ho11 (by kernel_rfl) (by kernel_rfl) (by kernel_rfl) (by kernel_rfl) (fun _ _ _ h => h) ?hy11 (Below.drew (Below.refl _ _)) ?rest11
      case ho11 => (simp only [List.getElem?_toArray, List.getElem?_cons_zero] <;> rfl)
      case hy11 => exact yieldsIf_load_mid (by rfl) 44 _ rfl (w.heap.size) (0) (by rfl) (A.toList) _ (fun w' hSw => bx_range (bx_below kA zA hSw)) Try.underlying44 rfl HIA.out
      case rest11 =>
      (try simp only [Act.put, List.setIfInBounds_toArray, List.set_cons_zero, List.set_cons_succ])
      refine Goes.take (i := 1) (oi := ?oi12) (x := ?vx12) ?ho12 (by kernel_rfl) (by kernel_rfl) (by kernel_rfl) (by kernel_rfl) (fun _ _ _ h => h) (Or.inl ⟨?hw12, ?hy12⟩) (Below.drew (Below.refl _ _)) ?rest12
      case ho12 => (simp only [List.getElem?_toArray, List.getElem?_cons_succ, List.getElem?_cons_zero] <;> rfl)
      case hw12 => rfl
      case hy12 => (intro w' hSw; have j0 := bx_below kA zA hSw; go_simp; (try with_reducible rfl))
      case rest12 =>
      (try simp only [Act.put, List.setIfInBounds_toArray, List.set_cons_zero, List.set_cons_succ])
      refine Goes.take (i := 2) (oi := ?oi13) (x := ?vx13) ?ho13 (by kernel_rfl) (by kernel_rfl) (by kernel_rfl) (by kernel_rfl) (fun _ _ _ h => h) (Or.inl ⟨?hw13, ?hy13⟩) (Below.drew (Below.refl _ _)) ?rest13
      case ho13 => (simp only [List.getElem?_toArray, List.getElem?_cons_succ, List.getElem?_cons_zero] <;> rfl)
      case hw13 => rfl
      case hy13 => (intro w' hSw; have j0 := bx_below kA zA hSw; go_simp; (try with_reducible rfl))
      case rest13 =>
      (try simp only [Act.put, List.setIfInBounds_toArray, List.set_cons_zero, List.set_cons_succ])
      refine Goes.take (i := 3) (oi := ?oi14) (x := ?vx14) ?ho14 (by kernel_rfl) (by kernel_rfl) (by kernel_rfl) (by kernel_rfl) (fun _ _ _ h => h) (Or.inl ⟨?hw14, ?hy14⟩) (Below.drew (Below.refl _ _)) ?rest14
      case ho14 => (simp only [List.getElem?_toArray, List.getElem?_cons_succ, List.getElem?_cons_zero] <;> rfl)
      case hw14 => rfl
      case hy14 => (intro w' hSw; have j0 := bx_below kA zA hSw; go_simp; (try with_reducible rfl))
      case rest14 =>
      (try simp only [Act.put, List.setIfInBounds_toArray, List.set_cons_zero, List.set_cons_succ])
      refine Goes.take (i := 4) (oi := ?oi15) (x := ?vx15) ?ho15 (by kernel_rfl) (by kernel_rfl) (by kernel_rfl) (by kernel_rfl) (fun _ _ _ h => h) (Or.inl ⟨?hw15, ?hy15⟩) (Below.drew (Below.refl _ _)) ?rest15
      case ho15 => (simp only [List.getElem?_toArray, List.getElem?_cons_succ, List.getElem?_cons_zero] <;> rfl)
      case hw15 => rfl
      case hy15 => (intro w' hSw; have j0 := bx_below kA zA hSw; go_simp; (try with_reducible rfl))
      case rest15 =>
      (try simp only [Act.put, List.setIfInBounds_toArray, List.set_cons_zero, List.set_cons_succ])
      refine Goes.take (i := 5) (oi := ?oi16) (x := ?vx16) ?ho16 (by kernel_rfl) (by kernel_rfl) (by kernel_rfl) (by kernel_rfl) (fun _ _ _ h => h) (Or.inl ⟨?hw16, ?hy16⟩) (Below.drew (Below.refl _ _)) ?rest16
      case ho16 => (simp only [List.getElem?_toArray, List.getElem?_cons_succ, List.getElem?_cons_zero] <;> rfl)
      case hw16 => rfl
      case hy16 => (intro w' hSw; have j0 := bx_below kA zA hSw; go_simp; (try with_reducible rfl))
      case rest16 =>
      (try simp only [Act.put, List.setIfInBounds_toArray, List.set_cons_zero, List.set_cons_succ])
      refine Goes.take (i := 6) (oi := ?oi17) (x := ?vx17) ?ho17 (by kernel_rfl) (by kernel_rfl) (by kernel_rfl) (by kernel_rfl) (fun _ _ _ h => h) (Or.inl ⟨?hw17, ?hy17⟩) (Below.drew (Below.refl _ _)) ?rest17
      case ho17 => (simp only [List.getElem?_toArray, List.getElem?_cons_succ, List.getElem?_cons_zero] <;> rfl)
      case hw17 => rfl
      case hy17 => (intro w' hSw; have j0 := bx_below kA zA hSw; go_simp; (try with_reducible rfl))
      case rest17 =>
      (try simp only [Act.put, List.setIfInBounds_toArray, List.set_cons_zero, List.set_cons_succ])
      refine Goes.all (rs := [7]) (by kernel_rfl) (by simp) ?_
      refine Ups.cons (i := 7) (o := ?oo18) ?ho18 (fun KK hKK => ?stp18) Ups.nil
      case ho18 => (simp only [List.getElem?_toArray, List.getElem?_cons_succ, List.getElem?_cons_zero] <;> rfl)
      case stp18 =>
      go_simp
      go_at_call 20
      refine (HPN.out _ (HB.out.trans (Below.drew ((Below.refl _ _).mono zw2)))).mono ?_
      rintro e u3 ⟨N15, rfl, ho, hbq⟩
      have HQ3 : Hid (Below w2.heap.size w2 u3) := (Below.drew (Below.refl w2.heap.size w2)).trans hbq
      have HO : Hid (Own u3 w2.heap.size u3.heap.size (shNR 104) V N15.toList) := ho
      have hNz : N15.size = 15 := rd_size (s := shNR 104) (ho.rd (Nat.le_refl _))
      have HIN15 : Hid ((Try.prog.info? 50).map (·.size) = some N15.size) := by show _ = _; rw [hNz]; exact info_NR
      have HONE15 : Hid (N15.all (·.oneCell') = true) := rd_all (s := shNR 104) (ho.rd (Nat.le_refl _))
      have kR4 := bx_below kR zR HQ3.out
      have fR4 := bxF fR HQ3.out zR
      have HTH : Hid (u3.there (w.heap.size + 1) 0 N15.size) := bx_there kR4 fR4 (by rw [hNz]; rfl)
      have HKR : Hid (∀ o, (u3.setCells (w.heap.size + 1) 0 N15.toList).cell? ⟨w.heap.size + 1, o, none⟩ = N15[o]?) := bx_setCells kR4 (by rw [hNz]; rfl)
      have hz4 := HQ3.out.size
      clear hbq ho HPN kR4 fR4 hNz
      dsimp only
      refine hKK.out _ _ (Or.inr HQ3.out) ?_
      clear hKK KK
      (try simp only [Act.put, List.setIfInBounds_toArray, List.set_cons_zero, List.set_cons_succ])
      refine Goes.all (rs := [8]) (by kernel_rfl) (by simp) ?_
      refine Ups.cons (i := 8) (o := ?oo19) ?ho19 (fun KK hKK => ?stp19) Ups.nil
      case ho19 => (simp only [List.getElem?_toArray, List.getElem?_cons_succ, List.getElem?_cons_zero] <;> rfl)
      case stp19 =>
      rw [if_pos (by rfl)]
      refine wp_store_mid 50 _ _ rfl _ _ N15 (by rfl) (by rfl) HTH.out HIN15.out HONE15.out ?_
      refine hKK.out _ _ (Or.inl rfl) ?_
      clear hKK KK
      (try simp only [Act.put])
      refine Goes.done (by kernel_rfl) ?_ _
      refine NoPanic.normal ?_
      go_wp2_with fail
      refine bodyPost_ret (results_box Try.results25 _ _ _ N15 _ (by rfl) HKR.out Try.underlying50 rfl (by exact HIN15.out)) rfl ⟨N15, rfl, ?_, ?_⟩
      · rw [setCells_size]
        exact (Own.keep HO.out (fun b h1 h2 => setCells_block (by omega) _ _ _)).mono (by omega) (Nat.le_refl _)
      · exact setCells_below (by omega) _ _ _ _ (HB.out.trans (HQ3.out.mono zw2))
  · rw [if_pos hF] at hv
    have h1 : (askF bag dead x1 != 0) = true := by simp [hF]
    have h2 : (askF bag dead x1 == 0) = false := by simp [hF]
    clear HAK
    generalize askF bag dead x1 = q at *
    obtain ⟨N15, hN⟩ : ∃ N : Array Value, N = #[.int .i64 q, .int .i64 0, .int .i64 0, .bool false, .bool false, .bool false, .int .i64 0, .int .i64 0, .int .i64 0, .int .i64 0, .int .i64 0, .int .i64 0, .slice none 0 0, .slice none 0 0, .slice none 0 0] := ⟨_, rfl⟩
    have HN15 : Hid _ := hN
    have hNz : N15.size = 15 := by rw [hN]; rfl
    have HNZ15 : Hid (N15.size = 15) := hNz
    have HIN15 : Hid ((Try.prog.info? 50).map (·.size) = some N15.size) := by show _ = _; rw [hNz]; exact info_NR
    have HONE15 : Hid (N15.all (·.oneCell') = true) := by show _ = _; rw [hN]; simp [Value.oneCell']
    clear hN hNz
    have HTH : Hid (w2.there (w.heap.size + 1) 0 N15.size) := bx_there kR fR (by rw [HNZ15.out]; rfl)
    have HKR : Hid (∀ o, (w2.setCells (w.heap.size + 1) 0 N15.toList).cell? ⟨w.heap.size + 1, o, none⟩ = N15[o]?) := bx_setCells kR (by rw [HNZ15.out]; rfl)
    go_wp2_with (first | (refine wpList_store_mid rfl 50 _ _ rfl _ _ N15 (by rfl) (by rw [HN15.out]; rfl) HTH.out HIN15.out HONE15.out ?_))
    refine bodyPost_ret (results_box Try.results25 _ _ _ N15 _ (by rfl) HKR.out Try.underlying50 rfl (by exact HIN15.out)) rfl ⟨N15, rfl, ?_, ?_⟩
    · rw [setCells_size, HN15.out]
      exact (Own.keep (by rw [hv]; exact own_badN _ w2 (w.heap.size + 2) w2.heap.size HWF.out (by omega)) (fun b h1 h2 => setCells_block (by omega) _ _ _)).mono (by omega) (Nat.le_refl _)
    · exact setCells_below (by omega) _ _ _ _ HB.out
end Go.Proofs.Ytebgibjokljlbaa

/- StripNet by program and model; nothing that was in memory turns; the condition is that there are at most a million parts. Written by mknet10.py. -/
namespace Go.Proofs.Ytebgibjokljlbaa
open Go.RowKit
set_option linter.unusedVariables false
set_option maxRecDepth 8000
def strV (g : DNet) (x : Int) : DNR := if askF g.1 g.2.1 x ≠ 0 then badN (askF g.1 g.2.1 x) else (0, zSg, (g.1.set x.toNat (stSg (g.1.getD x.toNat zSg)), g.2.1, ()), ())
theorem tot_st (x : DSegm) : totSegm (stSg x) = totSegm x := rfl
theorem tot_set : ∀ (l : List DSegm) (k : Nat) (y : DSegm), totSegm y ≤ totSegm (l.getD k zSg) → totSegms (l.set k y) ≤ totSegms l
  | [], _, _, _ => Nat.le_refl _
  | x :: r, 0, y, h => by
    have e1 : totSegms (y :: r) = totSegms [y] + totSegms r := totSegms_app [y] r
    have e2 : totSegms (x :: r) = totSegms [x] + totSegms r := totSegms_app [x] r
    have e3 : totSegms [y] = 1 + totSegm y := by simp [totSegms, fsum]
    have e4 : totSegms [x] = 1 + totSegm x := by simp [totSegms, fsum]
    have h' : totSegm y ≤ totSegm x := h
    show totSegms (y :: r) ≤ _
    omega
  | x :: r, k + 1, y, h => by
    have ih := tot_set r k y h
    have e1 : totSegms (x :: r.set k y) = totSegms [x] + totSegms (r.set k y) := totSegms_app [x] _
    have e2 : totSegms (x :: r) = totSegms [x] + totSegms r := totSegms_app [x] r
    show totSegms (x :: r.set k y) ≤ _
    omega
theorem strV_tot {g : DNet} (x : Int) (h : totNet g ≤ 1048576) : totNR (strV g x) ≤ 1048576 := by
  unfold strV
  split
  · rw [tot_badN]; omega
  · unfold totNet at h
    have := tot_set g.1 x.toNat (stSg (g.1.getD x.toNat zSg)) (Nat.le_of_eq (tot_st _))
    show 0 + (totSegms (g.1.set x.toNat (stSg (g.1.getD x.toNat zSg))) + g.2.1.length) ≤ _
    omega
set_option maxHeartbeats 8000000 in
theorem iStripNetA (x0 : DNet) (A : Array Value) (x1 : Int) (w : World) (B : Nat) (hr : shNet.Rd w B x0 A.toList) (hT : totNet x0 ≤ 1048576) (hB : B ≤ w.heap.size) :
    Calls Try.prog 26 #[.agg A, .int .i64 x1] w fun e w' => ∃ N : Array Value, e = .returned (.agg N) ∧ Own w' w.heap.size w'.heap.size (shNR 104) (strV x0 x1) N.toList ∧ Below w.heap.size w w' := by
  obtain ⟨bag, dead, ⟨⟩⟩ := x0
  obtain ⟨a, cap, da, dcap, eA, rb, rdd⟩ := rd_Net hr
  have a0 : A[0]? = some (.slice a bag.length cap) := get_of eA 0
  have a1 : A[1]? = some (.slice da dead.length dcap) := get_of eA 1
  have HRb : Hid (∀ W, Below w.heap.size w W → shSegms.Rd W B bag [.slice a bag.length cap]) := fun W hW => Sh.Rd.below rb hB hW
  have HRd : Hid (∀ W, Below w.heap.size w W → (bls 4).Rd W B dead [.slice da dead.length dcap]) := fun W hW => Sh.Rd.below rdd hB hW
  have eA2 := arr_of eA
  have HA2 : Hid (A = #[.slice a bag.length cap, .slice da dead.length dcap]) := eA2
  have HIA : Hid ((Try.prog.info? 44).map (·.size) = some A.toList.length) := by show _ = _; rw [eA]; exact info_NT
  have ht : totSegms bag + dead.length ≤ 1048576 := hT
  have HAK : Hid (∀ W, Below w.heap.size w W → Calls Try.prog 70 #[.agg A, .int .i64 x1] W fun e w' => e = .returned (.int .i64 (askF bag dead x1)) ∧ Below W.heap.size W w') := fun W hW => by rw [HA2.out]; exact iPlaceFault _ bag dead x1 _ _ W B (HRb.out W hW) (HRd.out W hW) (Nat.le_trans hB hW.size)
  obtain ⟨V, hV⟩ : ∃ V, V = strV (bag, dead, ()) x1 := ⟨_, rfl⟩
  rw [← hV]
  have HV : Hid (V = if askF bag dead x1 ≠ 0 then badN (askF bag dead x1) else (0, zSg, (bag.set x1.toNat (stSg (bag.getD x1.toNat zSg)), dead, ()), ())) := hV
  have HWF : Hid _ := askF_wf bag dead x1
  have hmx : bag.length ≤ 1048576 := by unfold totSegms at ht; omega
  have HRA : Hid (∀ W, Below w.heap.size w W → shNet.Rd W B (bag, dead, ()) A.toList) := fun W hW => Sh.Rd.below hr hB hW
  clear hV eA eA2 rb rdd hr hT
  have HWA : Hid (Below w.heap.size w ((w.alloc (.cells A 44)).alloc (.cells #[.int .i64 0, .int .i64 0, .int .i64 0, .bool false, .bool false, .bool false, .int .i64 0, .int .i64 0, .int .i64 0, .int .i64 0, .int .i64 0, .int .i64 0, .slice none 0 0, .slice none 0 0, .slice none 0 0] 50)) ∧ ((w.alloc (.cells A 44)).alloc (.cells #[.int .i64 0, .int .i64 0, .int .i64 0, .bool false, .bool false, .bool false, .int .i64 0, .int .i64 0, .int .i64 0, .int .i64 0, .int .i64 0, .int .i64 0, .slice none 0 0, .slice none 0 0, .slice none 0 0] 50)).heap.size = w.heap.size + 2 ∧ (∀ o, ((w.alloc (.cells A 44)).alloc (.cells #[.int .i64 0, .int .i64 0, .int .i64 0, .bool false, .bool false, .bool false, .int .i64 0, .int .i64 0, .int .i64 0, .int .i64 0, .int .i64 0, .int .i64 0, .slice none 0 0, .slice none 0 0, .slice none 0 0] 50)).cell? ⟨w.heap.size, o, none⟩ = (A : Array Value)[o]?) ∧ (∀ o, ((w.alloc (.cells A 44)).alloc (.cells #[.int .i64 0, .int .i64 0, .int .i64 0, .bool false, .bool false, .bool false, .int .i64 0, .int .i64 0, .int .i64 0, .int .i64 0, .int .i64 0, .int .i64 0, .slice none 0 0, .slice none 0 0, .slice none 0 0] 50)).cell? ⟨w.heap.size + 1, o, none⟩ = (#[.int .i64 0, .int .i64 0, .int .i64 0, .bool false, .bool false, .bool false, .int .i64 0, .int .i64 0, .int .i64 0, .int .i64 0, .int .i64 0, .int .i64 0, .slice none 0 0, .slice none 0 0, .slice none 0 0] : Array Value)[o]?) ∧ (∀ o, ((w.alloc (.cells A 44)).alloc (.cells #[.int .i64 0, .int .i64 0, .int .i64 0, .bool false, .bool false, .bool false, .int .i64 0, .int .i64 0, .int .i64 0, .int .i64 0, .int .i64 0, .int .i64 0, .slice none 0 0, .slice none 0 0, .slice none 0 0] 50)).frozen? ⟨w.heap.size + 1, o, none⟩ = false)) := ⟨(((Below.refl _ _).alloc (Nat.le_refl _) _).alloc (by simp) _), by simp, fun o => by simp [go_sem], fun o => by simp [go_sem], fun o => by simp [go_sem]⟩
  go_enter Try.func26, Try.ntmps26
  go_upto_region 1 with fail
  generalize hWW : ((w.alloc (.cells A 44)).alloc (.cells #[.int .i64 0, .int .i64 0, .int .i64 0, .bool false, .bool false, .bool false, .int .i64 0, .int .i64 0, .int .i64 0, .int .i64 0, .int .i64 0, .int .i64 0, .slice none 0 0, .slice none 0 0, .slice none 0 0] 50)) = W1 at HWA ⊢
  clear hWW
  obtain ⟨hb, hsz, kA, kR, fR⟩ := HWA.out
  clear HWA
  have HB : Hid (Below w.heap.size w W1) := hb
  have zA : w.heap.size < W1.heap.size := by omega
  have zR : w.heap.size + 1 < W1.heap.size := by omega
  clear hb hsz
  go_wp2_with (refine wpList_load_mid rfl 44 _ rfl _ _ (by rfl) A.toList _ (bx_range kA) Try.underlying44 rfl HIA.out ?_)
  refine (HAK.out _ HB.out).mono ?_
  rintro e w2 ⟨rfl, hb⟩
  replace kA := bx_below kA zA hb
  replace zA := Nat.lt_of_lt_of_le zA hb.size
  replace kR := bx_below kR zR hb
  replace fR := bxF fR hb zR
  replace zR := Nat.lt_of_lt_of_le zR hb.size
  replace HB : Hid (Below w.heap.size w w2) := HB.out.trans (hb.mono HB.out.size)
  clear hb
  have hv := HV.out
  clear HV
  by_cases hF : askF bag dead x1 = 0
  · rw [if_neg (by simp [hF])] at hv
    obtain ⟨hN0, hx0, hxn⟩ := askF_ok hF
    obtain ⟨h60, h3, hok⟩ := netF_ok hN0
    have HOK : Hid (∀ x ∈ bag, totSegm x ≤ 8 ∧ sgF x = 0) := fun x hx => by have := sgF_ok (hok x hx).1; exact ⟨by omega, (hok x hx).1⟩
    rw [hF]
    obtain ⟨k, hk⟩ : ∃ k : Nat, x1 = k := ⟨x1.toNat, by omega⟩
    have hkn : k < bag.length := by omega
    have HD3 : Hid (dead.length = 3) := h3
    have HCP : Hid (∀ W, Below w.heap.size w W → Calls Try.prog 71 #[.agg A] W fun e w' => ∃ N : Array Value, e = .returned (.agg N) ∧ NetP 104 w' W.heap.size bag dead N ∧ Below W.heap.size W w') := fun W hW => by rw [HA2.out]; exact iCopyNet _ bag dead _ _ W B (HRb.out W hW) (HRd.out W hW) (Nat.le_trans hB hW.size) hN0
    have HN00 : Hid (netF bag dead = 0) := hN0
    clear hok HAK hF hN0
    have e1 : x1.toNat = k := by omega
    rw [e1] at hv
    obtain ⟨b, off, cs, ha, hb0, hlen, hrg, hrs⟩ := row_at (HRb.out w (Below.refl _ _)) k hkn
    subst ha
    replace hlen : cs.length = 12 := hlen
    replace hrg : w.rangeAt b (off + k * 12) cs := hrg
    have ht8 := (HOK.out bag[k] (List.getElem_mem hkn)).1
    have hgd : bag.getD k zSg = bag[k] := by rw [List.getD_eq_getElem?_getD, List.getElem?_eq_getElem hkn]; rfl
    rw [hgd] at hv
    have HSS : Hid (∀ W, Below w.heap.size w W → Calls Try.prog 73 #[.agg cs.toArray] W fun e w' => ∃ N : Array Value, e = .returned (.agg N) ∧ Own w' W.heap.size w'.heap.size shSegm (stSg bag[k]) N.toList ∧ Below W.heap.size W w') := fun W hW => iStripA bag[k] cs.toArray W B (Sh.Rd.below (s := shSegm) hrs hB hW) (by omega)
    have HIX : Hid ((Try.prog.info? 48).map (·.size) = some cs.length) := by show _ = _; rw [hlen]; exact info_SG12
    have HG : Hid (w.rangeAt b (off + k * 12) cs) := hrg
    have hbw : b < w.heap.size := by omega
    generalize stSg bag[k] = sx at *
    obtain ⟨nb, hnb⟩ : ∃ nb, bag.length = nb := ⟨_, rfl⟩
    have HNB : Hid (bag.length = nb) := hnb
    clear hrs hlen hrg HOK HRb HRd HA2 ht8 hgd e1
    rw [hnb] at a0 h60 hmx hkn
    rw [HD3.out] at a1
    subst hk
    go_wp2_with (refine wpList_load_mid rfl 44 _ rfl _ _ (by rfl) A.toList _ (bx_range kA) Try.underlying44 rfl HIA.out ?_)
    refine (HCP.out _ HB.out).mono ?_
    rintro e u1 ⟨N, rfl, hnp, hb⟩
    have hz1 := hb.size
    have hNz := hnp.size
    have HNZ : Hid (N.size = 2) := hNz
    have HIN : Hid ((Try.prog.info? 44).map (·.size) = some N.size) := by show _ = _; rw [hNz]; exact info_NT
    have HONE : Hid (N.all (·.oneCell') = true) := hnp.one
    obtain ⟨m, va, da', vc, dc, eN, xd, xo, lm, lh⟩ := hnp
    rw [HD3.out] at eN xd
    have HEN : Hid _ := eN
    obtain ⟨w0, ew0⟩ : ∃ x, x = w2.heap.size := ⟨_, rfl⟩
    have hwz0 : w.heap.size + 2 ≤ w0 := by omega
    have hm1 : w0 ≤ m := by omega
    obtain ⟨hh, ehh⟩ : ∃ x, x = u1.heap.size := ⟨_, rfl⟩
    have XD : Hid (Own u1 w0 m (bls 104) dead [.slice da' 3 dc]) := by rw [ew0]; exact xd
    have XO : Hid (Own u1 m hh shSegms bag [.slice va bag.length vc]) := by rw [ehh]; exact xo
    have lh2 : m ≤ hh := by rw [ehh]; exact lh
    have lh3 : hh ≤ u1.heap.size := by omega
    clear hNz eN xd xo ew0 HCP lm lh
    replace kA := bx_below kA zA hb
    replace zA := Nat.lt_of_lt_of_le zA hb.size
    replace kR := bx_below kR zR hb
    replace fR := bxF fR hb zR
    replace zR := Nat.lt_of_lt_of_le zR hb.size
    replace HB : Hid (Below w.heap.size w u1) := HB.out.trans (hb.mono HB.out.size)
    clear hb
    clear ehh
    have HTH : Hid ((u1.alloc (.cells #[.slice none 0 0, .slice none 0 0] 44)).there u1.heap.size 0 N.size) := bx_there (bx_al _ _ _) (fx_al _ _ _) (by rw [HNZ.out]; rfl)
    have HWN : Hid (Below u1.heap.size u1 ((u1.alloc (.cells #[.slice none 0 0, .slice none 0 0] 44)).setCells u1.heap.size 0 N.toList) ∧ u1.heap.size < ((u1.alloc (.cells #[.slice none 0 0, .slice none 0 0] 44)).setCells u1.heap.size 0 N.toList).heap.size ∧ (∀ o, ((u1.alloc (.cells #[.slice none 0 0, .slice none 0 0] 44)).setCells u1.heap.size 0 N.toList).cell? ⟨u1.heap.size, o, none⟩ = N[o]?) ∧ (∀ o, ((u1.alloc (.cells #[.slice none 0 0, .slice none 0 0] 44)).setCells u1.heap.size 0 N.toList).frozen? ⟨u1.heap.size, o, none⟩ = false) ∧ (∃ cur, ((u1.alloc (.cells #[.slice none 0 0, .slice none 0 0] 44)).setCells u1.heap.size 0 N.toList).heap[u1.heap.size]? = some (.cells cur 44 (0, 0)))) := ⟨setCells_below (Nat.le_refl _) _ _ _ _ ((Below.refl _ _).alloc (Nat.le_refl _) _), by rw [setCells_size]; simp, bx_setCells (bx_al u1 _ _) (by rw [HNZ.out]; rfl), fx_sets (fx_al _ _ _), al_tyN _ _ _ _⟩
    go_upto_region 5 with (refine wpList_store_mid rfl 44 _ _ rfl _ _ N (by rfl) (by rfl) HTH.out HIN.out HONE.out ?_)
    generalize hWW : ((u1.alloc (.cells #[.slice none 0 0, .slice none 0 0] 44)).setCells u1.heap.size 0 N.toList) = u2 at HWN ⊢
    clear hWW HTH HIN HONE HNZ
    obtain ⟨hb, zQ, kQ, fQ, tQ⟩ := HWN.out
    clear HWN
    replace XD : Hid (Own u2 w0 m (bls 104) dead [.slice da' 3 dc]) := Own.below XD.out (by omega) hb
    replace XO : Hid (Own u2 m hh shSegms bag [.slice va bag.length vc]) := Own.below XO.out (by omega) hb
    obtain ⟨q, hq⟩ : ∃ q, q = u1.heap.size := ⟨_, rfl⟩
    have hqh : hh ≤ q := by omega
    replace kA := bx_below kA zA hb
    replace zA := Nat.lt_of_lt_of_le zA hb.size
    replace kR := bx_below kR zR hb
    replace fR := bxF fR hb zR
    replace zR := Nat.lt_of_lt_of_le zR hb.size
    replace HB : Hid (Below w.heap.size w u2) := HB.out.trans (hb.mono HB.out.size)
    clear hb
    rw [← hq] at zQ kQ fQ tQ ⊢
    have TQ : Hid _ := tQ
    clear hq lh3 hz1 tQ
    rw [HEN.out] at kQ
    clear HEN
    rw [hnb] at XO kQ
    clear hnb
    have hkc : (k : Int) < (nb : Int) := by omega
    have hk0 : (0 : Int) ≤ (k : Int) := by omega
    obtain ⟨g, hg⟩ : ∃ g, va = some ⟨g, 0, none⟩ := own_some XO.out (by rw [HNB.out]; omega)
    subst hg
    obtain ⟨sl, fz, hgl, hgh, -, -⟩ := hOwnSlot XO.out
    have HSL : Hid (∀ j, j < nb * 12 → ∃ old, u2.cell? ⟨g, j, none⟩ = some old) := sl
    have HFZ : Hid _ := fz
    clear sl fz
    have zw2 := HB.out.size
    refine wp_region_noPanic ?_
    refine Goes.start (S := fun w' => Below u2.heap.size u2 w') (z := 10) (by kernel_rfl) ?_
    refine Goes.take (i := 0) (oi := ?oi11) (x := ?vx11) ?ho11 (by kernel_rfl) (by kernel_rfl) (by kernel_rfl) (by kernel_rfl) (fun _ _ _ h => h) (Or.inl ⟨?hw11, ?hy11⟩) (Below.drew (Below.refl _ _)) ?rest11
    case ho11 => (simp only [List.getElem?_toArray, List.getElem?_cons_zero] <;> rfl)
    case hw11 => rfl
    case hy11 => (intro w' hSw; have j0 := bx_below kQ zQ hSw; have j1 := bx_below kA zA hSw; go_simp; (try with_reducible rfl))
    case rest11 =>
    (try simp only [Act.put, List.setIfInBounds_toArray, List.set_cons_zero, List.set_cons_succ])
    refine Goes.take (i := 1) (oi := ?oi12) (x := ?vx12) ?ho12 (by kernel_rfl) (by kernel_rfl) (by kernel_rfl) (by kernel_rfl) (fun _ _ _ h => h) (Or.inl ⟨?hw12, ?hy12⟩) (Below.drew (Below.refl _ _)) ?rest12
    case ho12 => (simp only [List.getElem?_toArray, List.getElem?_cons_succ, List.getElem?_cons_zero] <;> rfl)
    case hw12 => rfl
    case hy12 => (intro w' hSw; have j0 := bx_below kQ zQ hSw; have j1 := bx_below kA zA hSw; go_simp; (try with_reducible rfl))
    case rest12 =>
    (try simp only [Act.put, List.setIfInBounds_toArray, List.set_cons_zero, List.set_cons_succ])
    refine Goes.take (i := 2) (oi := ?oi13) (x := ?vx13) ?ho13 (by kernel_rfl) (by kernel_rfl) (by kernel_rfl) (by kernel_rfl) (fun _ _ _ h => h) (Or.inl ⟨?hw13, ?hy13⟩) (Below.drew (Below.refl _ _)) ?rest13
    case ho13 => (simp only [List.getElem?_toArray, List.getElem?_cons_succ, List.getElem?_cons_zero] <;> rfl)
    case hw13 => rfl
    case hy13 => (intro w' hSw; have j0 := bx_below kQ zQ hSw; have j1 := bx_below kA zA hSw; go_simp; (try with_reducible rfl))
    case rest13 =>
    (try simp only [Act.put, List.setIfInBounds_toArray, List.set_cons_zero, List.set_cons_succ])
    refine Goes.take (i := 3) (oi := ?oi14) (x := ?vx14) ?ho14 (by kernel_rfl) (by kernel_rfl) (by kernel_rfl) (by kernel_rfl) (fun _ _ _ h => h) (Or.inl ⟨?hw14, ?hy14⟩) (Below.drew (Below.refl _ _)) ?rest14
    case ho14 => (simp only [List.getElem?_toArray, List.getElem?_cons_succ, List.getElem?_cons_zero] <;> rfl)
    case hw14 => rfl
    case hy14 => (intro w' hSw; have j0 := bx_below kQ zQ hSw; have j1 := bx_below kA zA hSw; go_simp; (try with_reducible rfl))
    case rest14 =>
    (try simp only [Act.put, List.setIfInBounds_toArray, List.set_cons_zero, List.set_cons_succ])
    refine Goes.take (i := 4) (oi := ?oi15) (x := ?vx15) ?ho15 (by kernel_rfl) (by kernel_rfl) (by kernel_rfl) (by kernel_rfl) (fun _ _ _ h => h) (Or.inl ⟨?hw15, ?hy15⟩) (Below.drew (Below.refl _ _)) ?rest15
    case ho15 => (simp only [List.getElem?_toArray, List.getElem?_cons_succ, List.getElem?_cons_zero] <;> rfl)
    case hw15 => rfl
    case hy15 => (intro w' hSw; have j0 := bx_below kQ zQ hSw; have j1 := bx_below kA zA hSw; go_simp; (try with_reducible rfl))
    case rest15 =>
    (try simp only [Act.put, List.setIfInBounds_toArray, List.set_cons_zero, List.set_cons_succ])
    refine Goes.take (i := 5) (oi := ?oi16) (x := ?vx16) ?ho16 (by kernel_rfl) (by kernel_rfl) (by kernel_rfl) (by kernel_rfl) (fun _ _ _ h => h) (Or.inl ⟨?hw16, ?hy16⟩) (Below.drew (Below.refl _ _)) ?rest16
    case ho16 => (simp only [List.getElem?_toArray, List.getElem?_cons_succ, List.getElem?_cons_zero] <;> rfl)
    case hw16 => rfl
    case hy16 => (intro w' hSw; have j0 := bx_below kQ zQ hSw; have j1 := bx_below kA zA hSw; go_simp; (try with_reducible rfl))
    case rest16 =>
    (try simp only [Act.put, List.setIfInBounds_toArray, List.set_cons_zero, List.set_cons_succ])
    refine Goes.take (i := 6) (oi := ?oi17) (x := ?vx17) ?ho17 (by kernel_rfl) (by kernel_rfl) (by kernel_rfl) (by kernel_rfl) (fun _ _ _ h => h) (Or.inl ⟨?hw17, ?hy17⟩) (Below.drew (Below.refl _ _)) ?rest17
    case ho17 => (simp only [List.getElem?_toArray, List.getElem?_cons_succ, List.getElem?_cons_zero] <;> rfl)
    case hw17 => rfl
    case hy17 => (intro w' hSw; have j0 := bx_below kQ zQ hSw; have j1 := bx_below kA zA hSw; go_simp; (try with_reducible rfl))
    case rest17 =>
    (try simp only [Act.put, List.setIfInBounds_toArray, List.set_cons_zero, List.set_cons_succ])
    refine Goes.take (i := 7) (oi := ?oi18) (x := .agg (cs).toArray) ?ho18 (by kernel_rfl) (by kernel_rfl) (by kernel_rfl) (by kernel_rfl) (fun _ _ _ h => h) ?hy18 (Below.drew (Below.refl _ _)) ?rest18
    case ho18 => (simp only [List.getElem?_toArray, List.getElem?_cons_succ, List.getElem?_cons_zero] <;> rfl)
    case hy18 => exact yieldsIf_load_mid (by rfl) 48 _ rfl (b) (off + k * 12) (by rfl) (cs) _ (fun w' hSw => range_below HG.out (HB.out.trans (hSw.mono zw2)) hbw) Try.underlying48 rfl HIX.out
    case rest18 =>
    (try simp only [Act.put, List.setIfInBounds_toArray, List.set_cons_zero, List.set_cons_succ])
    refine Goes.all (rs := [8]) (by kernel_rfl) (by simp) ?_
    refine Ups.cons (i := 8) (o := ?oo19) ?ho19 (fun KK hKK => ?stp19) Ups.nil
    case ho19 => (simp only [List.getElem?_toArray, List.getElem?_cons_succ, List.getElem?_cons_zero] <;> rfl)
    case stp19 =>
    go_simp
    go_at_call 73
    refine (HSS.out _ (HB.out.trans (Below.drew ((Below.refl _ _).mono zw2)))).mono ?_
    rintro e u3 ⟨N2, rfl, ho, hbq⟩
    have HQ3 : Hid (Below u2.heap.size u2 u3) := (Below.drew (Below.refl u2.heap.size u2)).trans hbq
    have hbq2 := HQ3.out
    have HNZ : Hid (N2.size = 12) := rd_size (s := shSegm) (ho.rd (Nat.le_refl _))
    have HN1 : Hid (N2.all (·.oneCell') = true) := rd_all (s := shSegm) (ho.rd (Nat.le_refl _))
    have HIN : Hid ((Try.prog.info? 48).map (·.size) = some N2.size) := by show _ = _; rw [HNZ.out]; exact info_SG12
    have xo3 := Own.below XO.out (by omega) hbq2
    have o3 := (Own.stored (k := k) (Own.mono xo3 (Nat.le_refl _) (show hh ≤ u2.heap.size by omega)) (by rw [HNB.out]; omega) ho (show u2.heap.size ≤ u3.heap.size from hbq2.size)).1
    have e3 : setRow u3 g (k * shSegm.sz) N2.toList = u3.setCells g (k * 12) N2.toList := setRow_cellsN _ _ _ _
    rw [e3] at o3
    have HO3 : Hid (Own (u3.setCells g (k * 12) N2.toList) m u3.heap.size shSegms (bag.set k sx) [.slice (some ⟨g, 0, none⟩) nb vc]) := o3
    have hgu : g < u2.heap.size := by omega
    have HTH : Hid (u3.there g (k * 12) N2.size) := fun j hj => by
      rw [HNZ.out] at hj
      obtain ⟨old, h⟩ := HSL.out (k * 12 + j) (by omega)
      exact ⟨by rw [hbq2.cell (p := ⟨g, k * 12 + j, none⟩) hgu, h]; rfl, (hbq2.frozen (p := ⟨g, k * 12 + j, none⟩) hgu).trans (HFZ.out _)⟩
    replace XD : Hid (Own (u3.setCells g (k * 12) N2.toList) w0 m (bls 104) dead [.slice da' 3 dc]) := Own.keep (Own.below XD.out (by omega) hbq2) (fun b h1 h2 => setCells_block (by omega) _ _ _)
    have kQ3 : ∀ o, (u3.setCells g (k * 12) N2.toList).cell? ⟨q, o, none⟩ = (#[.slice (some ⟨g, 0, none⟩) nb vc, .slice da' 3 dc] : Array Value)[o]? := bx_setOff (bx_below kQ zQ hbq2) (by omega)
    have kR3 : ∀ o, (u3.setCells g (k * 12) N2.toList).cell? ⟨w.heap.size + 1, o, none⟩ = (#[.int .i64 0, .int .i64 0, .int .i64 0, .bool false, .bool false, .bool false, .int .i64 0, .int .i64 0, .int .i64 0, .int .i64 0, .int .i64 0, .int .i64 0, .slice none 0 0, .slice none 0 0, .slice none 0 0] : Array Value)[o]? := bx_setOff (bx_below kR zR hbq2) (by omega)
    have fR3 : ∀ o, (u3.setCells g (k * 12) N2.toList).frozen? ⟨w.heap.size + 1, o, none⟩ = false := fx_sets (bxF fR hbq2 zR)
    have HB3 : Hid (Below w.heap.size w (u3.setCells g (k * 12) N2.toList)) := setCells_below (by omega) _ _ _ _ (HB.out.trans (hbq2.mono zw2))
    have hz3 : (u3.setCells g (k * 12) N2.toList).heap.size = u3.heap.size := setCells_size _ _ _
    have hz4 := hbq2.size
    clear hbq hbq2 ho xo3 o3 e3 HSS
    dsimp only
    refine hKK.out _ _ (Or.inr HQ3.out) ?_
    clear hKK KK
    (try simp only [Act.put, List.setIfInBounds_toArray, List.set_cons_zero, List.set_cons_succ])
    refine Goes.take (i := 9) (oi := ?oi20) (x := ?vx20) ?ho20 (by kernel_rfl) (by kernel_rfl) (by kernel_rfl) (by kernel_rfl) (fun _ _ _ h => h) (Or.inl ⟨?hw20, ?hy20⟩) HQ3.out ?rest20
    case ho20 => (simp only [List.getElem?_toArray, List.getElem?_cons_succ, List.getElem?_cons_zero] <;> rfl)
    case hw20 => rfl
    case hy20 => (intro w' hSw; have j0 := bx_below kQ zQ hSw; have j1 := bx_below kA zA hSw; go_simp; (try with_reducible rfl))
    case rest20 =>
    (try simp only [Act.put, List.setIfInBounds_toArray, List.set_cons_zero, List.set_cons_succ])
    refine Goes.all (rs := [10]) (by kernel_rfl) (by simp) ?_
    refine Ups.cons (i := 10) (o := ?oo21) ?ho21 (fun KK hKK => ?stp21) Ups.nil
    case ho21 => (simp only [List.getElem?_toArray, List.getElem?_cons_succ, List.getElem?_cons_zero] <;> rfl)
    case stp21 =>
    rw [if_pos (by rfl)]
    refine wp_store_mid 48 _ _ rfl g (k * 12) N2 (by go_simp) (by rfl) HTH.out HIN.out HN1.out ?_
    refine hKK.out _ _ (Or.inl rfl) ?_
    clear hKK KK
    (try simp only [Act.put])
    refine Goes.done (by kernel_rfl) ?_ _
    refine NoPanic.normal ?_
    generalize hW5 : u3.setCells g (k * 12) N2.toList = u4 at HO3 XD kQ3 kR3 fR3 HB3 hz3 ⊢
    clear hW5 kQ kR fR HB
    have kQ := kQ3
    have kR := kR3
    have fR := fR3
    have HB := HB3
    clear kQ3 kR3 fR3 HB3 HTH
    rw [← hz3] at HO3
    have HO : Hid (Own u4 w0 u4.heap.size (shNR 104) (0, zSg, (bag.set k sx, dead, ()), ()) (.int .i64 0 :: (zSc ++ [.slice (some ⟨g, 0, none⟩) nb vc, .slice da' 3 dc]))) := own_NR (by decide) (own_zSg u4 _ w0) (own_Net' XD.out HO3.out hm1 (by omega)) (Nat.le_refl _) (by omega)
    clear HO3 XD
    obtain ⟨N15, hN⟩ : ∃ N : Array Value, N = #[.int .i64 0, .int .i64 0, .int .i64 0, .bool false, .bool false, .bool false, .int .i64 0, .int .i64 0, .int .i64 0, .int .i64 0, .int .i64 0, .int .i64 0, .slice none 0 0, .slice (some ⟨g, 0, none⟩) nb vc, .slice da' 3 dc] := ⟨_, rfl⟩
    have HN15 : Hid _ := hN
    have hNz : N15.size = 15 := by rw [hN]; rfl
    have HNZ15 : Hid (N15.size = 15) := hNz
    have HIN15 : Hid ((Try.prog.info? 50).map (·.size) = some N15.size) := by show _ = _; rw [hNz]; exact info_NR
    have HONE15 : Hid (N15.all (·.oneCell') = true) := by show _ = _; rw [hN]; simp [Value.oneCell']
    clear hN hNz
    have HTH : Hid (u4.there (w.heap.size + 1) 0 N15.size) := bx_there kR fR (by rw [HNZ15.out]; rfl)
    have HKR : Hid (∀ o, (u4.setCells (w.heap.size + 1) 0 N15.toList).cell? ⟨w.heap.size + 1, o, none⟩ = N15[o]?) := bx_setCells kR (by rw [HNZ15.out]; rfl)
    go_wp2_with (first | (refine wpList_load_mid rfl 44 _ rfl _ _ (by rfl) [.slice (some ⟨g, 0, none⟩) nb vc, .slice da' 3 dc] _ (bx_range kQ) Try.underlying44 rfl info_NT ?_) | (refine wpList_store_mid rfl 50 _ _ rfl _ _ N15 (by rfl) (by rw [HN15.out]; rfl) HTH.out HIN15.out HONE15.out ?_))
    refine bodyPost_ret (results_box Try.results26 _ _ _ N15 _ (by rfl) HKR.out Try.underlying50 rfl (by exact HIN15.out)) rfl ⟨N15, rfl, ?_, ?_⟩
    · rw [setCells_size, HN15.out]
      exact (Own.keep (by rw [hv]; exact HO.out) (fun b h1 h2 => setCells_block (by omega) _ _ _)).mono (by omega) (Nat.le_refl _)
    · exact setCells_below (by omega) _ _ _ _ HB.out
  · rw [if_pos hF] at hv
    have h1 : (askF bag dead x1 != 0) = true := by simp [hF]
    have h2 : (askF bag dead x1 == 0) = false := by simp [hF]
    clear HAK
    generalize askF bag dead x1 = q at *
    obtain ⟨N15, hN⟩ : ∃ N : Array Value, N = #[.int .i64 q, .int .i64 0, .int .i64 0, .bool false, .bool false, .bool false, .int .i64 0, .int .i64 0, .int .i64 0, .int .i64 0, .int .i64 0, .int .i64 0, .slice none 0 0, .slice none 0 0, .slice none 0 0] := ⟨_, rfl⟩
    have HN15 : Hid _ := hN
    have hNz : N15.size = 15 := by rw [hN]; rfl
    have HNZ15 : Hid (N15.size = 15) := hNz
    have HIN15 : Hid ((Try.prog.info? 50).map (·.size) = some N15.size) := by show _ = _; rw [hNz]; exact info_NR
    have HONE15 : Hid (N15.all (·.oneCell') = true) := by show _ = _; rw [hN]; simp [Value.oneCell']
    clear hN hNz
    have HTH : Hid (w2.there (w.heap.size + 1) 0 N15.size) := bx_there kR fR (by rw [HNZ15.out]; rfl)
    have HKR : Hid (∀ o, (w2.setCells (w.heap.size + 1) 0 N15.toList).cell? ⟨w.heap.size + 1, o, none⟩ = N15[o]?) := bx_setCells kR (by rw [HNZ15.out]; rfl)
    go_wp2_with (first | (refine wpList_store_mid rfl 50 _ _ rfl _ _ N15 (by rfl) (by rw [HN15.out]; rfl) HTH.out HIN15.out HONE15.out ?_))
    refine bodyPost_ret (results_box Try.results26 _ _ _ N15 _ (by rfl) HKR.out Try.underlying50 rfl (by exact HIN15.out)) rfl ⟨N15, rfl, ?_, ?_⟩
    · rw [setCells_size, HN15.out]
      exact (Own.keep (by rw [hv]; exact own_badN _ w2 (w.heap.size + 2) w2.heap.size HWF.out (by omega)) (fun b h1 h2 => setCells_block (by omega) _ _ _)).mono (by omega) (Nat.le_refl _)
    · exact setCells_below (by omega) _ _ _ _ HB.out
end Go.Proofs.Ytebgibjokljlbaa
