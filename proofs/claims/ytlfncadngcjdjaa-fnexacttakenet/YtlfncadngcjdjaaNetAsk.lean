/- What asks for a place in a net, and the program's copy of a net; nothing that was in memory turns; no condition but that there are at most a million parts. Written by mknet7.py. -/
import Derived.Test.YtlfncadngcjdjaaRows
import Derived.Test.YtlfncadngcjdjaaBase
import Derived.Test.YtlfncadngcjdjaaBytes
import Derived.Test.YtlfncadngcjdjaaMem
import Derived.Test.YtlfncadngcjdjaaMemOpen
import Derived.Test.YtlfncadngcjdjaaMemRow
import Derived.Test.YtlfncadngcjdjaaHBase
import Derived.Test.YtlfncadngcjdjaaHMark
import Derived.Test.YtlfncadngcjdjaaBox
import Derived.Test.YtlfncadngcjdjaaSubBox
import Derived.Test.YtlfncadngcjdjaaAgg
import Derived.Test.YtlfncadngcjdjaaElMark
import Derived.Test.YtlfncadngcjdjaaMSegs
import Derived.Test.YtlfncadngcjdjaaRegionU
import Derived.Test.YtlfncadngcjdjaaHSegs
import Derived.Test.YtlfncadngcjdjaaAppBytes
import Derived.Test.YtlfncadngcjdjaaApp
import Derived.Test.YtlfncadngcjdjaaMemApp
import Derived.Test.YtlfncadngcjdjaaSeg
import Derived.Test.YtlfncadngcjdjaaSegFS
import Derived.Test.YtlfncadngcjdjaaSegFI
import Derived.Test.YtlfncadngcjdjaaStrip
import Derived.Test.YtlfncadngcjdjaaRegS
import Derived.Test.YtlfncadngcjdjaaHBool
import Derived.Test.YtlfncadngcjdjaaHSegT
import Derived.Test.YtlfncadngcjdjaaNetSeg
import Derived.Test.YtlfncadngcjdjaaNetDef
import Derived.Test.YtlfncadngcjdjaaNetSpF
import Derived.Test.YtlfncadngcjdjaaNetImF
import Derived.Test.YtlfncadngcjdjaaHNet
import Derived.Test.YtlfncadngcjdjaaNetBx
import Derived.Test.YtlfncadngcjdjaaNetImC
import Derived.Test.YtlfncadngcjdjaaRegionQ
import Derived.Deep.RegionHeld3
import Derived.Deep.DeepCutAuto
import Derived.Deep.DeepMust
import Derived.Deep.MidRow
namespace Go.Proofs.Ytlfncadngcjdjaa
open Go.RowKit
set_option linter.unusedVariables false
set_option maxRecDepth 8000
def inP (at' : Int) (n : Nat) : Bool := inB9 at' 0 ((n : Int) - 1)
theorem inP_iff (x : Int) (n : Nat) : inP x n = true ↔ 0 ≤ x ∧ x < n := by unfold inP; rw [inB_iff9]; omega
def askF (bag : List DSegm) (dead : List Bool) (at' : Int) : Int := if netF bag dead ≠ 0 then netF bag dead else if inP at' bag.length = true then 0 else 4
theorem iPlaceS (x : Int) (a : Option Addr) (n cap : Nat) (hn : n ≤ 9223372036854775807) (w : World) :
    Calls Try.prog 79 #[.int .i64 x, .slice a n cap] w fun e w' => e = .returned (.bool (inP x n)) ∧ w' = w := by
  by_cases h : 0 ≤ x
  · by_cases h2 : x < n
    · have h2' : decide (x < (n : Int)) = true := by simp [h2]
      rw [(inP_iff x n).2 ⟨h, h2⟩]
      go_enter Try.func79, Try.ntmps79
      go_wp2_with fail
      go_ret
      exact ⟨rfl, rfl⟩
    · have h2' : decide (x < (n : Int)) = false := by simp; omega
      have e : inP x n = false := by cases e : inP x n with | false => rfl | true => have := (inP_iff x n).1 e; omega
      rw [e]
      go_enter Try.func79, Try.ntmps79
      go_wp2_with fail
      go_ret
      exact ⟨rfl, rfl⟩
  · have e : inP x n = false := by cases e : inP x n with | false => rfl | true => have := (inP_iff x n).1 e; omega
    rw [e]
    go_enter Try.func79, Try.ntmps79
    go_wp2_with fail
    go_ret
    exact ⟨rfl, rfl⟩
set_option maxHeartbeats 1000000 in
theorem iPlaceFault (t : TypeId) (bag : List DSegm) (dead : List Bool) (x : Int) (vb vd : Value) (w : World) (B : Nat) (hb : shSegms.Rd w B bag [vb]) (hd : (bls t).Rd w B dead [vd]) (hB : B ≤ w.heap.size) :
    Calls Try.prog 53 #[.agg #[vb, vd], .int .i64 x] w fun e w' => e = .returned (.int .i64 (askF bag dead x)) ∧ Below w.heap.size w w' := by
  have HC : Hid (∀ W, Below w.heap.size w W → Calls Try.prog 14 #[.agg #[vb, vd]] W fun e w' => e = .returned (.int .i64 (netF bag dead)) ∧ Below W.heap.size W w') := fun W hW => iNetFault t bag dead vb vd W B (hb.below hB hW) (hd.below hB hW) (Nat.le_trans hB hW.size)
  obtain ⟨a, cap, ev⟩ := row_form hb
  simp only [List.cons.injEq, and_true] at ev
  subst ev
  obtain ⟨da, dcap, rfl, hdm, -⟩ := rd_bls hd
  have hmx : bag.length ≤ 9223372036854775807 := row_max hb
  obtain ⟨R, hR⟩ : ∃ R, R = askF bag dead x := ⟨_, rfl⟩
  rw [← hR]
  have HR : Hid (R = if netF bag dead ≠ 0 then netF bag dead else if inP x bag.length = true then 0 else 4) := hR
  have HPL : Hid (∀ W, Calls Try.prog 79 #[.int .i64 x, .slice a bag.length cap] W fun e w' => e = .returned (.bool (inP x bag.length)) ∧ w' = W) := fun W => iPlaceS x a _ cap hmx W
  clear hb hd hR hdm hmx
  generalize netF bag dead = F at *
  generalize inP x bag.length = pl at *
  generalize bag.length = n at *
  generalize dead.length = m at *
  go_enter Try.func53, Try.ntmps53
  go_wp2_with fail
  refine (HC.out _ ((Below.refl _ _).alloc (Nat.le_refl _) _)).mono ?_
  rintro e w1 ⟨rfl, hb1⟩
  have k0 := bx_new hb1
  have HB : Hid (Below w.heap.size w w1) := (bl_new hb1).1
  clear hb1 HC
  have hr := HR.out
  by_cases hF : F = 0
  · subst hF
    rw [if_neg (by simp)] at hr
    go_wp2_with fail
    refine (HPL.out _).mono ?_
    rintro e w2 ⟨rfl, hw2⟩
    subst hw2
    cases pl with
    | true =>
      rw [if_pos rfl] at hr
      subst hr
      clear HR
      go_wp2_with fail
      go_ret
      exact ⟨rfl, HB.out⟩
    | false =>
      rw [if_neg (by simp)] at hr
      subst hr
      clear HR
      go_wp2_with fail
      go_ret
      exact ⟨rfl, HB.out⟩
  · rw [if_pos hF] at hr
    have h1 : (F != 0) = true := by simp [hF]
    have h2 : (F == 0) = false := by simp [hF]
    subst hr
    clear HR
    go_wp2_with fail
    go_ret
    exact ⟨rfl, HB.out⟩
set_option maxHeartbeats 1000000 in
theorem sL12Asked (t : TypeId) (bag : List DSegm) (dead : List Bool) (x : Int) (p : Nat) (vb vd : Value) (w : World) (B : Nat) (kP : ∀ o, w.cell? ⟨p, o, none⟩ = (#[vb, vd] : Array Value)[o]?) (hp : p < w.heap.size) (hb : shSegms.Rd w B bag [vb]) (hd : (bls t).Rd w B dead [vd]) (hB : B ≤ w.heap.size) :
    Calls Try.prog 66 #[.pointer (some ⟨p, 0, none⟩), .int .i64 x] w fun e w' => e = .returned (.int .i64 (askF bag dead x)) ∧ Below w.heap.size w w' := by
  have HC : Hid (Calls Try.prog 47 #[.pointer (some ⟨p, 0, none⟩)] w fun e w' => e = .returned (.int .i64 (netF bag dead)) ∧ Below w.heap.size w w') := sL12Fault t bag dead p vb vd w B kP hp hb hd hB
  obtain ⟨a, cap, ev⟩ := row_form hb
  simp only [List.cons.injEq, and_true] at ev
  subst ev
  obtain ⟨da, dcap, rfl, hdm, -⟩ := rd_bls hd
  have hmx : bag.length ≤ 9223372036854775807 := row_max hb
  obtain ⟨R, hR⟩ : ∃ R, R = askF bag dead x := ⟨_, rfl⟩
  rw [← hR]
  have HR : Hid (R = if netF bag dead ≠ 0 then netF bag dead else if inP x bag.length = true then 0 else 4) := hR
  have HPL : Hid (∀ W, Calls Try.prog 76 #[.int .i64 x, .int .i64 0, .int .i64 ((bag.length : Int) - 1)] W fun e w' => e = .returned (.bool (inP x bag.length)) ∧ w' = W) := fun W => sInB9 x 0 _ W
  clear hb hd hR hdm
  generalize netF bag dead = F at *
  generalize inP x bag.length = pl at *
  generalize bag.length = n at *
  generalize dead.length = m at *
  go_enter Try.func66, Try.ntmps66
  go_wp2_with fail
  refine HC.out.mono ?_
  rintro e w1 ⟨rfl, hb1⟩
  replace kP := bx_below kP hp hb1
  have HB : Hid (Below w.heap.size w w1) := hb1
  clear hb1 HC
  have hr := HR.out
  by_cases hF : F = 0
  · subst hF
    rw [if_neg (by simp)] at hr
    go_wp2_with fail
    refine (HPL.out _).mono ?_
    rintro e w2 ⟨rfl, hw2⟩
    subst hw2
    cases pl with
    | true =>
      rw [if_pos rfl] at hr
      subst hr
      clear HR
      go_wp2_with fail
      go_ret
      exact ⟨rfl, HB.out⟩
    | false =>
      rw [if_neg (by simp)] at hr
      subst hr
      clear HR
      go_wp2_with fail
      go_ret
      exact ⟨rfl, HB.out⟩
  · rw [if_pos hF] at hr
    have h1 : (F != 0) = true := by simp [hF]
    have h2 : (F == 0) = false := by simp [hF]
    subst hr
    clear HR
    go_wp2_with fail
    go_ret
    exact ⟨rfl, HB.out⟩
set_option maxHeartbeats 2000000 in
theorem iCopyNet (t : TypeId) (bag : List DSegm) (dead : List Bool) (vb vd : Value) (w : World) (B : Nat) (hb : shSegms.Rd w B bag [vb]) (hd : (bls t).Rd w B dead [vd]) (hB : B ≤ w.heap.size) (hF : netF bag dead = 0) :
    Calls Try.prog 54 #[.agg #[vb, vd]] w fun e w' => ∃ N : Array Value, e = .returned (.agg N) ∧ NetP 69 w' w.heap.size bag dead N ∧ Below w.heap.size w w' := by
  obtain ⟨h60, h3, hok⟩ := netF_ok hF
  have HC : Hid (∀ W, Below w.heap.size w W → Calls Try.prog 44 #[.agg (arr3 dead), vb] W fun e w' => ∃ N : Array Value, e = .returned (.agg N) ∧ NetP 69 w' W.heap.size bag dead N ∧ Below W.heap.size W w') := fun W hW => by have h := iCarriedBy dead bag vb W B (hb.below hB hW) (Nat.le_trans hB hW.size) h3 (by omega) (fun x hx => by have := (sgF_ok (hok x hx).1).2.2; omega) (fun x hx => ⟨(sgF_ok (hok x hx).1).1, (sgF_ok (hok x hx).1).2.1⟩); rw [putN_bag hF] at h; exact h
  have HD : Hid (∀ W, Below w.heap.size w W → Calls Try.prog 45 #[vd] W fun e w' => e = .returned (.agg (arr3 dead)) ∧ Below W.heap.size W w') := fun W hW => iDeadOf t dead vd W B (hd.below hB hW) (Nat.le_trans hB hW.size) h3
  obtain ⟨a, cap, ev⟩ := row_form hb
  simp only [List.cons.injEq, and_true] at ev
  subst ev
  obtain ⟨da, dcap, rfl, hdm, -⟩ := rd_bls hd
  rw [h3] at HD ⊢
  clear hb hd hdm hok h60 hF
  have HBN : Hid (∀ (W : World) (lo : Nat) (N : Array Value), NetP 69 W lo bag dead N → N.size = 2 ∧ N.all (·.oneCell') = true) := fun W lo N h => ⟨h.size, h.one⟩
  generalize arr3 dead = D at *
  generalize bag.length = n at *
  have HWA : Hid (Below w.heap.size w ((w.alloc (.cells #[.slice a n cap, .slice da 3 dcap] 27)).alloc (.cells #[.slice none 0 0, .slice none 0 0] 27)) ∧ ((w.alloc (.cells #[.slice a n cap, .slice da 3 dcap] 27)).alloc (.cells #[.slice none 0 0, .slice none 0 0] 27)).heap.size = w.heap.size + 2 ∧ (∀ o, ((w.alloc (.cells #[.slice a n cap, .slice da 3 dcap] 27)).alloc (.cells #[.slice none 0 0, .slice none 0 0] 27)).cell? ⟨w.heap.size, o, none⟩ = (#[.slice a n cap, .slice da 3 dcap] : Array Value)[o]?) ∧ (∀ o, ((w.alloc (.cells #[.slice a n cap, .slice da 3 dcap] 27)).alloc (.cells #[.slice none 0 0, .slice none 0 0] 27)).cell? ⟨w.heap.size + 1, o, none⟩ = (#[.slice none 0 0, .slice none 0 0] : Array Value)[o]?) ∧ (∀ o, ((w.alloc (.cells #[.slice a n cap, .slice da 3 dcap] 27)).alloc (.cells #[.slice none 0 0, .slice none 0 0] 27)).frozen? ⟨w.heap.size + 1, o, none⟩ = false)) := ⟨((Below.refl _ _).alloc (Nat.le_refl _) _).alloc (by simp) _, by simp, fun o => by simp [go_sem], fun o => by simp [go_sem], fun o => by simp [go_sem]⟩
  go_enter Try.func54, Try.ntmps54
  go_upto_region 1 with fail
  generalize hWW : ((w.alloc (.cells #[.slice a n cap, .slice da 3 dcap] 27)).alloc (.cells #[.slice none 0 0, .slice none 0 0] 27)) = W1 at HWA ⊢
  clear hWW
  obtain ⟨hb, hsz, kA, kR, fR⟩ := HWA.out
  have HB : Hid (Below w.heap.size w W1) := hb
  have zA : w.heap.size < W1.heap.size := by omega
  have zR : w.heap.size + 1 < W1.heap.size := by omega
  clear HWA hb hsz
  refine wp_region_noPanic ?_
  refine Goes.start (S := fun w' => Below W1.heap.size W1 w') (z := 6) (by kernel_rfl) ?_
  refine Goes.take (i := 0) (oi := ?oi11) (x := ?vx11) ?ho11 (by kernel_rfl) (by kernel_rfl) (by kernel_rfl) (by kernel_rfl) (fun _ _ _ h => h) (Or.inl ⟨?hw11, ?hy11⟩) (Below.drew (Below.refl _ _)) ?rest11
  case ho11 => (simp only [List.getElem?_toArray, List.getElem?_cons_zero] <;> rfl)
  case hw11 => rfl
  case hy11 => (intro w' hSw; have j0 := bx_below kA zA hSw; go_simp; (try with_reducible rfl))
  case rest11 =>
  (try simp only [Act.put, List.setIfInBounds_toArray, List.set_cons_zero, List.set_cons_succ])
  refine Goes.take (i := 1) (oi := ?oi12) (x := ?vx12) ?ho12 (by kernel_rfl) (by kernel_rfl) (by kernel_rfl) (by kernel_rfl) (fun _ _ _ h => h) (Or.inl ⟨?hw12, ?hy12⟩) (Below.drew (Below.refl _ _)) ?rest12
  case ho12 => (simp only [List.getElem?_toArray, List.getElem?_cons_succ, List.getElem?_cons_zero] <;> rfl)
  case hw12 => rfl
  case hy12 => (intro w' hSw; have j0 := bx_below kA zA hSw; go_simp; (try with_reducible rfl))
  case rest12 =>
  (try simp only [Act.put, List.setIfInBounds_toArray, List.set_cons_zero, List.set_cons_succ])
  refine Goes.take (i := 3) (oi := ?oi13) (x := ?vx13) ?ho13 (by kernel_rfl) (by kernel_rfl) (by kernel_rfl) (by kernel_rfl) (fun _ _ _ h => h) (Or.inl ⟨?hw13, ?hy13⟩) (Below.drew (Below.refl _ _)) ?rest13
  case ho13 => (simp only [List.getElem?_toArray, List.getElem?_cons_succ, List.getElem?_cons_zero] <;> rfl)
  case hw13 => rfl
  case hy13 => (intro w' hSw; have j0 := bx_below kA zA hSw; go_simp; (try with_reducible rfl))
  case rest13 =>
  (try simp only [Act.put, List.setIfInBounds_toArray, List.set_cons_zero, List.set_cons_succ])
  refine Goes.take (i := 4) (oi := ?oi14) (x := ?vx14) ?ho14 (by kernel_rfl) (by kernel_rfl) (by kernel_rfl) (by kernel_rfl) (fun _ _ _ h => h) (Or.inl ⟨?hw14, ?hy14⟩) (Below.drew (Below.refl _ _)) ?rest14
  case ho14 => (simp only [List.getElem?_toArray, List.getElem?_cons_succ, List.getElem?_cons_zero] <;> rfl)
  case hw14 => rfl
  case hy14 => (intro w' hSw; have j0 := bx_below kA zA hSw; go_simp; (try with_reducible rfl))
  case rest14 =>
  (try simp only [Act.put, List.setIfInBounds_toArray, List.set_cons_zero, List.set_cons_succ])
  refine Goes.all (rs := [2]) (by kernel_rfl) (by simp) ?_
  refine Ups.cons (i := 2) (o := ?oo15) ?ho15 (fun KK hKK => ?stp15) Ups.nil
  case ho15 => (simp only [List.getElem?_toArray, List.getElem?_cons_succ, List.getElem?_cons_zero] <;> rfl)
  case stp15 =>
  go_simp
  go_at_call 45
  refine (HD.out _ (HB.out.trans (Below.drew ((Below.refl _ _).mono HB.out.size)))).mono ?_
  rintro e w2 ⟨rfl, hbq⟩
  replace hbq := (Below.drew (Below.refl W1.heap.size W1)).trans hbq
  have HS15 : Hid (Below W1.heap.size W1 w2) := hbq
  clear hbq
  dsimp only
  refine hKK.out _ _ (Or.inr HS15.out) ?_
  clear hKK KK
  (try simp only [Act.put, List.setIfInBounds_toArray, List.set_cons_zero, List.set_cons_succ])
  refine Goes.all (rs := [5]) (by kernel_rfl) (by simp) ?_
  refine Ups.cons (i := 5) (o := ?oo16) ?ho16 (fun KK hKK => ?stp16) Ups.nil
  case ho16 => (simp only [List.getElem?_toArray, List.getElem?_cons_succ, List.getElem?_cons_zero] <;> rfl)
  case stp16 =>
  go_simp
  go_at_call 44
  refine (HC.out _ (HB.out.trans (HS15.out.mono HB.out.size))).mono ?_
  rintro e w3 ⟨N, rfl, hnp, hbq⟩
  have HBQ : Hid (Below W1.heap.size W1 w3) := HS15.out.trans (hbq.mono HS15.out.size)
  obtain ⟨hNz, hN1⟩ := HBN.out _ _ _ hnp
  have hz3 : W1.heap.size ≤ w2.heap.size := HS15.out.size
  have HNP : Hid (NetP 69 w3 w2.heap.size bag dead N) := hnp
  have HIN : Hid ((Try.prog.info? 27).map (·.size) = some N.size) := by show _ = _; rw [hNz]; exact info_NT
  have HONE : Hid (N.all (·.oneCell') = true) := hN1
  have kR3 := bx_below kR zR HBQ.out
  have fR3 := bxF fR HBQ.out zR
  have HTH : Hid (w3.there (w.heap.size + 1) 0 N.size) := bx_there kR3 fR3 (by rw [hNz]; rfl)
  have HKR : Hid (∀ o, (w3.setCells (w.heap.size + 1) 0 N.toList).cell? ⟨w.heap.size + 1, o, none⟩ = N[o]?) := bx_setCells kR3 (by rw [hNz]; rfl)
  clear hnp hbq hNz hN1 kR3 fR3
  dsimp only
  refine hKK.out _ _ (Or.inr HBQ.out) ?_
  clear hKK KK
  (try simp only [Act.put, List.setIfInBounds_toArray, List.set_cons_zero, List.set_cons_succ])
  refine Goes.all (rs := [6]) (by kernel_rfl) (by simp) ?_
  refine Ups.cons (i := 6) (o := ?oo17) ?ho17 (fun KK hKK => ?stp17) Ups.nil
  case ho17 => (simp only [List.getElem?_toArray, List.getElem?_cons_succ, List.getElem?_cons_zero] <;> rfl)
  case stp17 =>
  rw [if_pos (by rfl)]
  refine wp_store_mid 27 _ _ rfl _ _ N (by rfl) (by rfl) HTH.out HIN.out HONE.out ?_
  refine hKK.out _ _ (Or.inl rfl) ?_
  clear hKK KK
  (try simp only [Act.put])
  refine Goes.done (by kernel_rfl) ?_ _
  refine NoPanic.normal ?_
  go_wp2_with fail
  refine bodyPost_ret (results_box Try.results54 _ _ _ N _ (by rfl) HKR.out Try.underlying27 rfl (by exact HIN.out)) rfl ⟨N, rfl, ?_, ?_⟩
  · exact NetP.keep HNP.out (by omega) (fun b hb => setCells_block (by omega) _ _ _) (by rw [setCells_size])
  · exact setCells_below (by omega) _ _ _ _ (HB.out.trans (HBQ.out.mono HB.out.size))
end Go.Proofs.Ytlfncadngcjdjaa
