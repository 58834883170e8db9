/- Plain facts of nets that are put, killed, taken, copied and stripped, where nothing is at fault; no condition but that. -/
import Derived.Test.YtebgibjokljlbaaRows
import Derived.Deep.RegionHeld3
import Derived.Deep.DeepCutAuto
import Derived.Deep.DeepMust
import Derived.Deep.MidRow
import Derived.Test.YtebgibjokljlbaaK01
import Derived.Test.YtebgibjokljlbaaK02
import Derived.Test.YtebgibjokljlbaaK03
import Derived.Test.YtebgibjokljlbaaK10
import Derived.Test.YtebgibjokljlbaaK17
import Derived.Test.YtebgibjokljlbaaK20
import Derived.Test.YtebgibjokljlbaaK42
import Derived.Test.YtebgibjokljlbaaK43
import Derived.Test.YtebgibjokljlbaaK55
import Derived.Test.YtebgibjokljlbaaK56
import Derived.Test.YtebgibjokljlbaaK57
import Derived.Test.YtebgibjokljlbaaK64
import Derived.Test.YtebgibjokljlbaaK66
import Derived.Test.YtebgibjokljlbaaK67
import Derived.Test.YtebgibjokljlbaaK93
import Derived.Test.YtebgibjokljlbaaK94
import Derived.Test.YtebgibjokljlbaaK96
import Derived.Test.YtebgibjokljlbaaK97
import Derived.Test.YtebgibjokljlbaaK98
namespace Go.Proofs.Ytebgibjokljlbaa
set_option linter.unusedVariables false
theorem carF_of {dead : List Bool} : ∀ (l : List DSegm), (∀ x ∈ l, sgF x = 0 ∧ deadAt dead x = false) → carF dead l = 0
  | [], _ => rfl
  | y :: r, h => by
    have h1 := h y (by simp)
    unfold carF
    rw [if_neg (by simp [h1.1]), if_neg (by simp [h1.2])]
    exact carF_of r (fun x hx => h x (by simp [hx]))
theorem netF_of {bag : List DSegm} {dead : List Bool} (h1 : bag.length ≤ 60) (h2 : dead.length = 3) (h3 : ∀ x ∈ bag, sgF x = 0 ∧ deadAt dead x = false) : netF bag dead = 0 := by
  unfold netF
  rw [if_neg (by omega), if_neg (by simp [h2])]
  exact carF_of bag h3
theorem putN_good {dead : List Bool} : ∀ (l acc : List DSegm), (∀ x ∈ acc, sgF x = 0 ∧ deadAt dead x = false) → (∀ x ∈ l, sgF x = 0) → acc.length ≤ 60 →
    (∀ x ∈ putN dead acc l, sgF x = 0 ∧ deadAt dead x = false) ∧ (putN dead acc l).length ≤ 60 ∧ acc.length ≤ (putN dead acc l).length ∧ (putN dead acc l).length ≤ acc.length + l.length
  | [], acc, h1, _, h3 => ⟨h1, h3, Nat.le_refl _, Nat.le_refl _⟩
  | y :: r, acc, h1, h2, h3 => by
    have e : putN dead acc (y :: r) = putN dead (put1 dead acc y) r := rfl
    rw [e]
    have hp : (∀ x ∈ put1 dead acc y, sgF x = 0 ∧ deadAt dead x = false) ∧ (put1 dead acc y).length ≤ 60 ∧ acc.length ≤ (put1 dead acc y).length ∧ (put1 dead acc y).length ≤ acc.length + 1 := by
      unfold put1
      split
      · rename_i hc
        refine ⟨fun x hx => ?_, ?_, ?_, ?_⟩
        · rcases List.mem_append.1 hx with h | h
          · exact h1 x h
          · rw [List.mem_singleton] at h; subst h; exact ⟨h2 _ (by simp), hc.1⟩
        · rw [List.length_append, List.length_singleton]; omega
        · rw [List.length_append]; omega
        · rw [List.length_append, List.length_singleton]; omega
      · exact ⟨h1, h3, Nat.le_refl _, Nat.le_succ _⟩
    obtain ⟨a, b, c, d⟩ := putN_good r (put1 dead acc y) hp.1 (fun x hx => h2 x (by simp [hx])) hp.2.1
    refine ⟨a, b, by omega, ?_⟩
    rw [List.length_cons]; omega
theorem nets_put {bag l : List DSegm} {dead : List Bool} (h : (putV (bag, dead, ()) l).1 = 0) :
    putV (bag, dead, ()) l = (0, zSg, (putN dead bag l, dead, ()), ()) ∧ netF (putN dead bag l) dead = 0 ∧ bag.length ≤ (putN dead bag l).length ∧ (putN dead bag l).length ≤ bag.length + l.length := by
  unfold putV at h ⊢
  by_cases h1 : netF bag dead = 0
  · rw [if_neg (by simp [h1])] at h ⊢
    by_cases h2 : firstF l = 0
    · rw [if_neg (by simp [h2])] at h ⊢
      obtain ⟨a1, a2, a3⟩ := netF_ok h1
      obtain ⟨b1, b2, b3, b4⟩ := putN_good l bag a3 (firstF_ok h2) a1
      exact ⟨rfl, netF_of b2 a2 b1, b3, b4⟩
    · rw [if_pos (by simp [h2])] at h
      exact absurd h h2
  · rw [if_pos (by simp [h1])] at h
    exact absurd h h1
theorem nets_kill {bag : List DSegm} {dead : List Bool} {p : Nat} (h : netF bag dead = 0) (hp : p < 3) :
    kilV (bag, dead, ()) (p : Int) = (0, zSg, (killF (p : Int) bag, dead.set p true, ()), ()) ∧ netF (killF (p : Int) bag) (dead.set p true) = 0 ∧ (∀ y ∈ killF (p : Int) bag, y.1 ≠ (p : Int)) ∧ (dead.set p true).getD p false = true ∧ (dead.set p true).length = 3 := by
  obtain ⟨a1, a2, a3⟩ := netF_ok h
  have hm : ∀ y ∈ killF (p : Int) bag, y ∈ bag ∧ y.1 ≠ (p : Int) := fun y hy => by
    have := List.mem_filter.1 hy
    exact ⟨this.1, by simpa using this.2⟩
  refine ⟨?_, netF_of (Nat.le_trans (List.length_filter_le _ _) a1) (by rw [List.length_set]; exact a2) (fun y hy => ?_), fun y hy => (hm y hy).2, ?_, by rw [List.length_set]; exact a2⟩
  · unfold kilV
    rw [if_neg (by simp [h]), if_neg (by unfold inB9; simp; omega)]
    rw [Int.toNat_natCast]
  · obtain ⟨q1, q2⟩ := hm y hy
    obtain ⟨r1, r2⟩ := a3 y q1
    refine ⟨r1, ?_⟩
    have hb := sgF_ok r1
    unfold deadAt at r2 ⊢
    rw [List.getD_eq_getElem?_getD] at r2 ⊢
    rw [List.getElem?_set_ne (by omega)]
    exact r2
  · rw [List.getD_eq_getElem?_getD, List.getElem?_set_self (by omega)]
    rfl
theorem ask_good {bag : List DSegm} {dead : List Bool} {at' : Nat} (h : netF bag dead = 0) (hk : at' < bag.length) : askF bag dead (at' : Int) = 0 := by
  unfold askF
  rw [if_neg (by simp [h]), if_pos (by unfold inP inB9; simp; omega)]
theorem nets_take {bag : List DSegm} {dead : List Bool} {k : Nat} (h : netF bag dead = 0) (hk : k < bag.length) :
    takV (bag, dead, ()) (k : Int) = (0, bag[k], (bag.eraseIdx k, dead, ()), ()) ∧ (bag.eraseIdx k).length = bag.length - 1 := by
  refine ⟨?_, List.length_eraseIdx_of_lt hk⟩
  unfold takV
  rw [if_neg (by simp [ask_good h hk]), Int.toNat_natCast, List.getD_eq_getElem?_getD, List.getElem?_eq_getElem hk]
  rfl
theorem nets_none {dead : List Bool} (h : netF [] dead = 0) : takV ([], dead, ()) 0 = badN 4 := by
  have : askF [] dead 0 = 4 := by
    unfold askF
    rw [if_neg (by simp [h]), if_neg (by unfold inP inB9; simp)]
  unfold takV
  rw [if_pos (by simp [this])]
  rw [this]
theorem nets_copy {bag : List DSegm} {dead : List Bool} {k : Nat} (h : netF bag dead = 0) (hk : k < bag.length) :
    copV (bag, dead, ()) (k : Int) = if bag.length = 60 then badN 2 else (0, zSg, (bag ++ [bag[k]], dead, ()), ()) := by
  obtain ⟨a1, -, -⟩ := netF_ok h
  unfold copV
  rw [if_neg (by simp [ask_good h hk]), Int.toNat_natCast, List.getD_eq_getElem?_getD, List.getElem?_eq_getElem hk]
  by_cases h6 : bag.length = 60
  · rw [if_pos h6, if_pos (by simp; omega)]
  · rw [if_neg h6, if_neg (by simp; omega)]
    rfl
theorem nets_strip {bag : List DSegm} {dead : List Bool} {k : Nat} (h : netF bag dead = 0) (hk : k < bag.length) :
    strV (bag, dead, ()) (k : Int) = (0, zSg, (bag.set k (stSg bag[k]), dead, ()), ()) := by
  unfold strV
  rw [if_neg (by simp [ask_good h hk]), Int.toNat_natCast, List.getD_eq_getElem?_getD, List.getElem?_eq_getElem hk]
  rfl
theorem st_opt (y : DSegm) : (stSg y).2.2.2.2.2.2.2.2.1 = 0 := rfl
end Go.Proofs.Ytebgibjokljlbaa

/- The model's l12Put of one segment, for the draws: the net's box may lie ahead of its rows. Written by mknetd1.py. -/
namespace Go.Proofs.Ytebgibjokljlbaa
open Go.RowKit
set_option linter.unusedVariables false
set_option maxRecDepth 8000
theorem own_blk {w : World} {lo hi : Nat} {t : TypeId} {e : Sh} {l : List e.El} {v : Value} (h : Own w lo hi (.row t e) l [v]) {b : Nat} (hb : v.ownBlock = some b) : lo ≤ b ∧ b < hi := by
  obtain ⟨bs, h1, h2, h3⟩ := h
  rcases h1 with ⟨_, e1, _⟩ | ⟨g, cap, cur, F, e1, e2, -⟩
  · simp only [List.cons.injEq, and_true] at e1
    rw [e1] at hb; simp [Value.ownBlock] at hb
  · simp only [List.cons.injEq, and_true] at e1
    rw [e1] at hb
    simp [Value.ownBlock] at hb
    subst hb
    exact h3 _ (by rw [e2]; simp)
/-- A box is as it was, one block, and all below a place. -/
structure SBk (wr : World) (lo p b : Nat) (Q : Array Value) (w' : World) : Prop where
  bl : Below lo wr w'
  sz : wr.heap.size ≤ w'.heap.size
  k0 : ∀ o, w'.cell? ⟨p, o, none⟩ = Q[o]?
  kb : w'.heap[b]? = wr.heap[b]?
theorem SBk.below {wr wc wn : World} {lo p b : Nat} {Q : Array Value} (h : SBk wr lo p b Q wc) (hb : Below wc.heap.size wc wn) (h0 : p < wr.heap.size) (h1 : lo ≤ wr.heap.size) (h2 : b < wr.heap.size) : SBk wr lo p b Q wn :=
  ⟨h.bl.trans (hb.mono (Nat.le_trans h1 h.sz)), Nat.le_trans h.sz hb.size, bx_below h.k0 (Nat.lt_of_lt_of_le h0 h.sz) hb, (hb.block _ (Nat.lt_of_lt_of_le h2 h.sz)).trans h.kb⟩
theorem SBk.drew {wr wc : World} {lo p b : Nat} {Q : Array Value} (h : SBk wr lo p b Q wc) : SBk wr lo p b Q wc.drew := ⟨h.bl.drew, h.sz, h.k0, h.kb⟩
theorem range_kept {w w' : World} {b off : Nat} {cs : List Value} (h : w.rangeAt b off cs) (hk : w'.heap[b]? = w.heap[b]?) : w'.rangeAt b off cs := fun j v hv => (World.cell?_of_block (w := w) (a := ⟨b, off + j, none⟩) hk).trans (h j v hv)
set_option maxHeartbeats 8000000 in
theorem sL12Put1 (dead : List Bool) (acc0 : List DSegm) (x : DSegm) (p : Nat) (va0 da : Option Addr) (vc0 dc b : Nat) (cs : List Value) (w : World) (B dlo dhi lo hi : Nat) (kQ : ∀ o, w.cell? ⟨p, o, none⟩ = (#[.slice va0 acc0.length vc0, .slice da dead.length dc] : Array Value)[o]?) (tQ : ∃ cur, w.heap[p]? = some (.cells cur 44 (0, 0))) (zQ : p < w.heap.size)
    (xd : Own w dlo dhi (bls 4) dead [.slice da dead.length dc]) (xo : Own w lo hi shSegms acc0 [.slice va0 acc0.length vc0]) (l1 : lo ≤ hi) (ld : dhi ≤ p) (l2 : p < lo) (l4 : hi ≤ b) (hbz : b < w.heap.size) (hlen : cs.length = 12) (hrg : w.rangeAt b 0 cs) (hrs : shSegm.Rd w B x cs) (hB : B ≤ w.heap.size) (h3 : dead.length = 3) (h60 : acc0.length ≤ 60) (ht : totSegm x ≤ 1048576) (p0 : 0 ≤ x.1) (p1 : x.1 ≤ 2) :
    Calls Try.prog 67 #[.pointer (some ⟨p, 0, none⟩), .slice (some ⟨b, 0, none⟩) 1 1] w fun e w' => ∃ va vc, e = .returned (.tuple #[]) ∧ (∀ o, w'.cell? ⟨p, o, none⟩ = (#[.slice va (put1 dead acc0 x).length vc, .slice da dead.length dc] : Array Value)[o]?) ∧ (∃ cur, w'.heap[p]? = some (.cells cur 44 (0, 0))) ∧ p < w'.heap.size ∧ Own w' dlo dhi (bls 4) dead [.slice da dead.length dc] ∧ Own w' lo w'.heap.size shSegms (put1 dead acc0 x) [.slice va (put1 dead acc0 x).length vc] ∧ Below p w w' := by
  have hlw : lo ≤ w.heap.size := by omega
  obtain ⟨-, db, doff, hda, hdb, hdc⟩ := dead_at (xd.rd (Nat.le_refl _)) h3
  subst hda
  rw [h3] at kQ xd ⊢
  have XD : Hid (Own w dlo dhi (bls 4) dead [.slice (some ⟨db, doff, none⟩) 3 dc]) := xd
  have XO0 : Hid (Own w lo hi shSegms acc0 [.slice va0 acc0.length vc0]) := xo
  have XO : Hid (Own w lo w.heap.size shSegms acc0 [.slice va0 acc0.length vc0]) := Own.mono xo (Nat.le_refl _) (by omega)
  have TQ : Hid (∃ cur, w.heap[p]? = some (.cells cur 44 (0, 0))) := tQ
  have HIX : Hid ((Try.prog.info? 48).map (·.size) = some cs.length) := by show _ = _; rw [hlen]; exact info_SG12
  have HCG : Hid (∀ W, Below w.heap.size w W → Calls Try.prog 106 #[.agg cs.toArray] W fun e w' => ∃ N : Array Value, e = .returned (.agg N) ∧ Own w' W.heap.size w'.heap.size shSegm x N.toList ∧ Below W.heap.size W w') := fun W hW => sCopyA x cs.toArray W B (Sh.Rd.below (s := shSegm) hrs hB hW) ht
  have hc0 : w.cell? ⟨b, 0, none⟩ = some (.int .i64 x.1) := by have := hrg 0 _ (seg_path hrs); simpa using this
  have HG : Hid (w.rangeAt b 0 cs) := hrg
  have HP1 : Hid (put1 dead acc0 x = if deadAt dead x = false ∧ acc0.length < 60 then acc0 ++ [x] else acc0) := rfl
  obtain ⟨pn, hpn⟩ : ∃ pn : Nat, x.1 = pn := ⟨x.1.toNat, by omega⟩
  have hDp : w.cell? ⟨db, doff + pn, none⟩ = some (.bool (deadAt dead x)) := by rw [hdc pn (by omega)]; unfold deadAt; rw [hpn]; rfl
  rw [hpn] at hc0
  have q0 : (0 : Int) ≤ (pn : Int) := by omega
  have q1 : (pn : Int) < 3 := by omega
  obtain ⟨m, hm⟩ : ∃ m, acc0.length = m := ⟨_, rfl⟩
  have HM : Hid (acc0.length = m) := hm
  rw [hm] at kQ XO XO0 h60
  have HKQ : Hid _ := kQ
  clear hm hrg hrs ht xd xo hlen hdc hpn p0 p1 tQ h3
  generalize hR : put1 dead acc0 x = R at *
  clear hR
  go_enter Try.func67, Try.ntmps67
  go_upto_region 1 with fail
  go_loopw [4] (fun i wr => ∃ k : Nat, i = .int .i64 k ∧ ((k = 0 ∧ w = wr) ∨ (k = 1 ∧ ∃ (va : Option Addr) (vc : Nat), Hid (∀ o, wr.cell? ⟨p, o, none⟩ = (#[.slice va R.length vc, .slice (some ⟨db, doff, none⟩) 3 dc] : Array Value)[o]?) ∧ Hid (∃ cur, wr.heap[p]? = some (.cells cur 44 (0, 0))) ∧ Hid (p < wr.heap.size) ∧ Hid (Own wr dlo dhi (bls 4) dead [.slice (some ⟨db, doff, none⟩) 3 dc]) ∧ Hid (Own wr lo wr.heap.size shSegms R [.slice va R.length vc]) ∧ Hid (Below p w wr)))) (fun i _ => 1 - (intOf i).toNat)
  case atStart => exact ⟨0, rfl, Or.inl ⟨rfl, rfl⟩⟩
  case round =>
    obtain ⟨k, rfl, ⟨rfl, rfl⟩ | ⟨rfl, va, vc, kQ2, TQ2, zQ2, XD2, XO2, HB2⟩⟩ := hrel
    · by_cases h6 : m < 60
      · have h6' : decide ((m : Int) < 60) = true := by simp; omega
        cases hdx : deadAt dead x with
        | true =>
          rw [hdx] at hDp
          have HP2 : Hid (R = acc0) := by show _ = _; rw [HP1.out, if_neg (by simp [hdx])]
          go_wp2_with fail
          go_quiet (fail)
          go_wp2_with fail
          go_roundw
          case rel => exact ⟨1, by go_num, Or.inr ⟨rfl, va0, vc0, by show ∀ o, _; rw [HP2.out, HM.out]; exact HKQ.out, TQ, zQ, Own.keep XD.out (fun b _ _ => rfl), by show Own _ _ _ _ _ _; rw [HP2.out, HM.out]; exact Own.keep XO.out (fun b _ _ => rfl), below_drewN (Below.refl _ _) _⟩⟩
          case measure => simp [intOf]
        | false =>
          rw [hdx] at hDp
          have HP2 : Hid (R = acc0 ++ [x]) := by show _ = _; rw [HP1.out, if_pos ⟨hdx, by rw [HM.out]; exact h6⟩]
          go_wp2_with fail
          go_quiet (fail)
          go_upto_region 4 with fail
          clear HKQ hDp hc0 hdx
          have hbd : Below w.heap.size w (w.drewN nq) := below_drewN (Below.refl _ _) nq
          have hzd : (w.drewN nq).heap.size = w.heap.size := rfl
          generalize hV : w.drewN nq = V at hbd hzd ⊢
          clear hV
          replace kQ := bx_below kQ zQ hbd
          replace TQ : Hid (∃ cur, V.heap[p]? = some (.cells cur 44 (0, 0))) := ty_below TQ.out (hbd.block p zQ)
          replace XD : Hid (Own V dlo dhi (bls 4) dead [.slice (some ⟨db, doff, none⟩) 3 dc]) := Own.below XD.out (by omega) hbd
          replace XO0 : Hid (Own V lo hi shSegms acc0 [.slice va0 m vc0]) := Own.below XO0.out (by omega) hbd
          replace XO : Hid (Own V lo V.heap.size shSegms acc0 [.slice va0 m vc0]) := by rw [hzd]; exact Own.below XO.out (Nat.le_refl _) hbd
          have HB : Hid (Below p w V) := hbd.mono (by omega)
          have HCG2 : Hid (∀ W, Below V.heap.size V W → Calls Try.prog 106 #[.agg cs.toArray] W fun e w' => ∃ N : Array Value, e = .returned (.agg N) ∧ Own w' W.heap.size w'.heap.size shSegm x N.toList ∧ Below W.heap.size W w') := fun W hW => HCG.out W (hbd.trans (hW.mono (by omega)))
          replace HG : Hid (V.rangeAt b 0 cs) := range_below HG.out hbd (by omega)
          have zV : p < V.heap.size := by omega
          have zL : lo ≤ V.heap.size := by omega
          have zB : b < V.heap.size := by omega
          clear HCG hbd hzd zQ
          have HS : Hid (SBk V lo p b #[.slice va0 m vc0, .slice (some ⟨db, doff, none⟩) 3 dc] V) := ⟨Below.refl _ _, Nat.le_refl _, kQ, rfl⟩
          clear kQ
          refine wp_region_noPanic ?_
          refine Goes.start (S := SBk V lo p b #[.slice va0 m vc0, .slice (some ⟨db, doff, none⟩) 3 dc]) (z := 14) (by kernel_rfl) ?_
          refine Goes.take (i := 0) (oi := ?oi11) (x := ?vx11) ?ho11 (by kernel_rfl) (by kernel_rfl) (by kernel_rfl) (by kernel_rfl) (fun _ _ _ h => h) (Or.inl ⟨?hw11, ?hy11⟩) HS.out.drew ?rest11
          case ho11 => (simp only [List.getElem?_toArray, List.getElem?_cons_zero] <;> rfl)
          case hw11 => rfl
          case hy11 => (intro w' hSw; have j0 := hSw.k0; go_simp; (try with_reducible rfl))
          case rest11 =>
          (try simp only [Act.put, List.setIfInBounds_toArray, List.set_cons_zero, List.set_cons_succ])
          refine Goes.take (i := 1) (oi := ?oi12) (x := ?vx12) ?ho12 (by kernel_rfl) (by kernel_rfl) (by kernel_rfl) (by kernel_rfl) (fun _ _ _ h => h) (Or.inl ⟨?hw12, ?hy12⟩) HS.out.drew ?rest12
          case ho12 => (simp only [List.getElem?_toArray, List.getElem?_cons_succ, List.getElem?_cons_zero] <;> rfl)
          case hw12 => rfl
          case hy12 => (intro w' hSw; have j0 := hSw.k0; go_simp; (try with_reducible rfl))
          case rest12 =>
          (try simp only [Act.put, List.setIfInBounds_toArray, List.set_cons_zero, List.set_cons_succ])
          refine Goes.take (i := 2) (oi := ?oi13) (x := ?vx13) ?ho13 (by kernel_rfl) (by kernel_rfl) (by kernel_rfl) (by kernel_rfl) (fun _ _ _ h => h) (Or.inl ⟨?hw13, ?hy13⟩) HS.out.drew ?rest13
          case ho13 => (simp only [List.getElem?_toArray, List.getElem?_cons_succ, List.getElem?_cons_zero] <;> rfl)
          case hw13 => rfl
          case hy13 => (intro w' hSw; have j0 := hSw.k0; go_simp; (try with_reducible rfl))
          case rest13 =>
          (try simp only [Act.put, List.setIfInBounds_toArray, List.set_cons_zero, List.set_cons_succ])
          refine Goes.take (i := 3) (oi := ?oi14) (x := ?vx14) ?ho14 (by kernel_rfl) (by kernel_rfl) (by kernel_rfl) (by kernel_rfl) (fun _ _ _ h => h) (Or.inl ⟨?hw14, ?hy14⟩) HS.out.drew ?rest14
          case ho14 => (simp only [List.getElem?_toArray, List.getElem?_cons_succ, List.getElem?_cons_zero] <;> rfl)
          case hw14 => rfl
          case hy14 => (intro w' hSw; have j0 := hSw.k0; go_simp; (try with_reducible rfl))
          case rest14 =>
          (try simp only [Act.put, List.setIfInBounds_toArray, List.set_cons_zero, List.set_cons_succ])
          refine Goes.take (i := 4) (oi := ?oi15) (x := ?vx15) ?ho15 (by kernel_rfl) (by kernel_rfl) (by kernel_rfl) (by kernel_rfl) (fun _ _ _ h => h) (Or.inl ⟨?hw15, ?hy15⟩) HS.out.drew ?rest15
          case ho15 => (simp only [List.getElem?_toArray, List.getElem?_cons_succ, List.getElem?_cons_zero] <;> rfl)
          case hw15 => rfl
          case hy15 => (intro w' hSw; have j0 := hSw.k0; go_simp; (try with_reducible rfl))
          case rest15 =>
          (try simp only [Act.put, List.setIfInBounds_toArray, List.set_cons_zero, List.set_cons_succ])
          refine Goes.take (i := 5) (oi := ?oi16) (x := ?vx16) ?ho16 (by kernel_rfl) (by kernel_rfl) (by kernel_rfl) (by kernel_rfl) (fun _ _ _ h => h) (Or.inl ⟨?hw16, ?hy16⟩) HS.out.drew ?rest16
          case ho16 => (simp only [List.getElem?_toArray, List.getElem?_cons_succ, List.getElem?_cons_zero] <;> rfl)
          case hw16 => rfl
          case hy16 => (intro w' hSw; have j0 := hSw.k0; go_simp; (try with_reducible rfl))
          case rest16 =>
          (try simp only [Act.put, List.setIfInBounds_toArray, List.set_cons_zero, List.set_cons_succ])
          refine Goes.take (i := 6) (oi := ?oi17) (x := ?vx17) ?ho17 (by kernel_rfl) (by kernel_rfl) (by kernel_rfl) (by kernel_rfl) (fun _ _ _ h => h) (Or.inl ⟨?hw17, ?hy17⟩) HS.out.drew ?rest17
          case ho17 => (simp only [List.getElem?_toArray, List.getElem?_cons_succ, List.getElem?_cons_zero] <;> rfl)
          case hw17 => rfl
          case hy17 => (intro w' hSw; have j0 := hSw.k0; go_simp; (try with_reducible rfl))
          case rest17 =>
          (try simp only [Act.put, List.setIfInBounds_toArray, List.set_cons_zero, List.set_cons_succ])
          refine Goes.take (i := 7) (oi := ?oi18) (x := ?vx18) ?ho18 (by kernel_rfl) (by kernel_rfl) (by kernel_rfl) (by kernel_rfl) (fun _ _ _ h => h) (Or.inl ⟨?hw18, ?hy18⟩) HS.out.drew ?rest18
          case ho18 => (simp only [List.getElem?_toArray, List.getElem?_cons_succ, List.getElem?_cons_zero] <;> rfl)
          case hw18 => rfl
          case hy18 => (intro w' hSw; have j0 := hSw.k0; go_simp; (try with_reducible rfl))
          case rest18 =>
          (try simp only [Act.put, List.setIfInBounds_toArray, List.set_cons_zero, List.set_cons_succ])
          refine Goes.take (i := 8) (oi := ?oi19) (x := .agg (cs).toArray) ?ho19 (by kernel_rfl) (by kernel_rfl) (by kernel_rfl) (by kernel_rfl) (fun _ _ _ h => h) ?hy19 HS.out.drew ?rest19
          case ho19 => (simp only [List.getElem?_toArray, List.getElem?_cons_succ, List.getElem?_cons_zero] <;> rfl)
          case hy19 => exact yieldsIf_load_mid (by rfl) 48 _ rfl (b) (0) (by rfl) (cs) _ (fun w' hSw => range_kept HG.out hSw.kb) Try.underlying48 rfl HIX.out
          case rest19 =>
          (try simp only [Act.put, List.setIfInBounds_toArray, List.set_cons_zero, List.set_cons_succ])
          refine Goes.all (rs := [9]) (by kernel_rfl) (by simp) ?_
          refine Ups.cons (i := 9) (o := ?oo20) ?ho20 (fun KK hKK => ?stp20) Ups.nil
          case ho20 => (simp only [List.getElem?_toArray, List.getElem?_cons_succ, List.getElem?_cons_zero] <;> rfl)
          case stp20 =>
          go_simp
          go_at_call 106
          refine (HCG2.out _ (Below.drew (Below.refl _ _))).mono ?_
          rintro e w2 ⟨N, rfl, ho2, hbq⟩
          have HS6 : Hid (SBk V lo p b #[.slice va0 m vc0, .slice (some ⟨db, doff, none⟩) 3 dc] w2) := SBk.below HS.out.drew hbq zV zL zB
          replace hbq := (Below.drew (Below.refl V.heap.size V)).trans hbq
          have HE1 : Hid (Own w2 V.heap.size w2.heap.size shSegm x N.toList) := ho2
          have HNZ : Hid (N.size = 12) := rd_size (s := shSegm) (ho2.rd (Nat.le_refl _))
          have HOW : Hid (Own w2 lo V.heap.size shSegms acc0 [.slice va0 m vc0]) := Own.below XO.out (Nat.le_refl _) hbq
          have HOW0 : Hid (Own w2 lo hi shSegms acc0 [.slice va0 m vc0]) := Own.below XO0.out (by omega) hbq
          replace XD : Hid (Own w2 dlo dhi (bls 4) dead [.slice (some ⟨db, doff, none⟩) 3 dc]) := Own.below XD.out (by omega) hbq
          replace TQ : Hid (∃ cur, w2.heap[p]? = some (.cells cur 44 (0, 0))) := ty_below TQ.out (hbq.block p zV)
          have hz2 := hbq.size
          clear ho2 hbq XO XO0 HCG2
          dsimp only
          refine hKK.out _ _ (Or.inr HS6.out) ?_
          clear hKK KK
          (try simp only [Act.put, List.setIfInBounds_toArray, List.set_cons_zero, List.set_cons_succ])
          obtain ⟨e0, e1, e2, e3, e4, e5, e6, e7, e8, e9, e10, e11, hN⟩ := arr12 HNZ.out
          subst hN
          refine Goes.all (rs := [10]) (by kernel_rfl) (by simp) ?_
          refine Ups.cons (i := 10) (o := ?oo21) ?ho21 (fun KK hKK => ?stp21) Ups.nil
          case ho21 => (simp only [List.getElem?_toArray, List.getElem?_cons_succ, List.getElem?_cons_zero] <;> rfl)
          case stp21 =>
          go_simp
          refine hKK.out _ _ (Or.inr (SBk.below HS6.out ((Below.refl _ _).alloc (Nat.le_refl _) _) zV zL zB)) ?_
          clear hKK KK
          (try simp only [Act.put, List.setIfInBounds_toArray, List.set_cons_zero, List.set_cons_succ])
          refine Goes.all (rs := [11]) (by kernel_rfl) (by simp) ?_
          refine Ups.cons (i := 11) (o := ?oo22) ?ho22 (fun KK hKK => ?stp22) Ups.nil
          case ho22 => (simp only [List.getElem?_toArray, List.getElem?_cons_succ, List.getElem?_cons_zero] <;> rfl)
          case stp22 =>
          refine app_elem_st w2 (by rfl) _ _ 41 48 (by rfl) shSegm (.agg #[.int .i64 0, .int .i64 0, .bool false, .bool false, .bool false, .int .i64 0, .int .i64 0, .int .i64 0, .int .i64 0, .int .i64 0, .int .i64 0, .slice none 0 0]) 96 Try.underlying41 info_SZ rfl (by decide) (by decide) lo V.heap.size V.heap.size w2.heap.size acc0 (.slice va0 m vc0) (by rfl) w2.heap.size rfl (by rfl) HOW.out x [e0, e1, e2, e3, e4, e5, e6, e7, e8, e9, e10, e11] HE1.out zL (Nat.le_refl _) (Nat.le_refl _) (by rw [HM.out]; omega) (by omega) ?_
          intro v3 w3' ho3 hb3 hk3 hs3
          obtain ⟨va3, vc3, hv3⟩ := row_form (ho3.rd (Nat.le_refl _))
          simp only [List.cons.injEq, and_true, List.length_append, List.length_cons, List.length_nil, HM.out] at hv3
          subst hv3
          have HO3 : Hid (Own w3' lo w3'.heap.size shSegms (acc0 ++ [x]) [.slice va3 (m + 1) vc3]) := ho3
          have hblk := hk3 p (by omega) (ty_ne HOW.out TQ.out)
          have hblb := hk3 b (by omega) (fun e => absurd (own_blk HOW0.out e).2 (by omega))
          have HS9 : Hid (SBk V lo p b #[.slice va0 m vc0, .slice (some ⟨db, doff, none⟩) 3 dc] w3') := ⟨HS6.out.bl.trans hb3, Nat.le_trans HS6.out.sz (Nat.le_of_lt hs3), fun o => (World.cell?_of_block hblk).trans (HS6.out.k0 o), hblb.trans HS6.out.kb⟩
          replace XD : Hid (Own w3' dlo dhi (bls 4) dead [.slice (some ⟨db, doff, none⟩) 3 dc]) := Own.below XD.out (by omega) hb3
          replace TQ : Hid (∃ cur, w3'.heap[p]? = some (.cells cur 44 (0, 0))) := ty_below TQ.out hblk
          have fQ := ty_frz TQ.out
          have hz3 : p < w3'.heap.size := by omega
          clear ho3 hb3 hk3 HOW HOW0 HE1 hs3 hblk hblb
          refine hKK.out _ _ (Or.inr HS9.out) ?_
          clear hKK KK
          (try simp only [Act.put, List.setIfInBounds_toArray, List.set_cons_zero, List.set_cons_succ])
          refine Goes.all (rs := [12]) (by kernel_rfl) (by simp) ?_
          refine Ups.cons (i := 12) (o := ?oo23) ?ho23 (fun KK hKK => ?stp23) Ups.nil
          case ho23 => (simp only [List.getElem?_toArray, List.getElem?_cons_succ, List.getElem?_cons_zero] <;> rfl)
          case stp23 =>
          go_simp
          refine hKK.out _ _ (Or.inr HS9.out) ?_
          clear hKK KK
          (try simp only [Act.put, List.setIfInBounds_toArray, List.set_cons_zero, List.set_cons_succ])
          refine Goes.take (i := 13) (oi := ?oi24) (x := ?vx24) ?ho24 (by kernel_rfl) (by kernel_rfl) (by kernel_rfl) (by kernel_rfl) (fun _ _ _ h => h) (Or.inl ⟨?hw24, ?hy24⟩) HS9.out ?rest24
          case ho24 => (simp only [List.getElem?_toArray, List.getElem?_cons_succ, List.getElem?_cons_zero] <;> rfl)
          case hw24 => rfl
          case hy24 => (intro w' hSw; have j0 := hSw.k0; go_simp; (try with_reducible rfl))
          case rest24 =>
          (try simp only [Act.put, List.setIfInBounds_toArray, List.set_cons_zero, List.set_cons_succ])
          refine Goes.all (rs := [14]) (by kernel_rfl) (by simp) ?_
          refine Ups.cons (i := 14) (o := ?oo25) ?ho25 (fun KK hKK => ?stp25) Ups.nil
          case ho25 => (simp only [List.getElem?_toArray, List.getElem?_cons_succ, List.getElem?_cons_zero] <;> rfl)
          case stp25 =>
          have kQ := HS9.out.k0
          go_simp
          refine hKK.out _ _ (Or.inl rfl) ?_
          clear hKK KK
          (try simp only [Act.put])
          refine Goes.done (by kernel_rfl) ?_ _
          refine NoPanic.normal ?_
          go_wp2_with fail
          replace kQ := bx_put kQ (k := 0) (v := .slice va3 (m + 1) vc3) (by simp)
          simp only [List.setIfInBounds_toArray, List.set_cons_zero] at kQ
          have hR1 : R.length = m + 1 := by rw [HP2.out, List.length_append, HM.out]; rfl
          have HR1 : Hid (R.length = m + 1) := hR1
          clear hR1
          go_roundw
          case rel => exact ⟨1, by go_num, Or.inr ⟨rfl, va3, vc3, by show ∀ o, _; rw [HR1.out]; exact kQ, (by obtain ⟨c, h⟩ := TQ.out; exact ⟨_, heap_set h⟩ : ∃ cur, _), (by show _ < _; simp; omega : p < _), Own.keep XD.out (fun b h1 h2 => Below.heap_setCell _ _ _ _ (by dsimp only; omega)), by show Own _ _ _ _ _ _; rw [HR1.out, HP2.out]; exact Own.mono (own_setp HO3.out TQ.out) (Nat.le_refl _) (by simp), Below.setCell (p := ⟨p, 0, none⟩) (HB.out.trans (HS9.out.bl.mono (by omega))) (show p ≤ p by omega) _⟩⟩
          case measure => simp [intOf]
      · have h6' : decide ((m : Int) < 60) = false := by simp; omega
        have HP2 : Hid (R = acc0) := by show _ = _; rw [HP1.out, if_neg (by rw [HM.out]; omega)]
        go_wp2_with fail
        go_quiet (fail)
        go_wp2_with fail
        go_roundw
        case rel => exact ⟨1, by go_num, Or.inr ⟨rfl, va0, vc0, by show ∀ o, _; rw [HP2.out, HM.out]; exact HKQ.out, TQ, zQ, Own.keep XD.out (fun b _ _ => rfl), by show Own _ _ _ _ _ _; rw [HP2.out, HM.out]; exact Own.keep XO.out (fun b _ _ => rfl), below_drewN (Below.refl _ _) _⟩⟩
        case measure => simp [intOf]
    · go_wp2_with fail
      exact ⟨rfl, .tuple #[], by simp [results, Try.results67], va, vc, rfl, kQ2.out, TQ2.out, zQ2.out, XD2.out, XO2.out, HB2.out⟩
end Go.Proofs.Ytebgibjokljlbaa

/- The model's l12Kill, for the draws: the net's box lies between its bools and its rows. Written by mknetd2.py. -/
namespace Go.Proofs.Ytebgibjokljlbaa
open Go.RowKit
set_option linter.unusedVariables false
set_option maxRecDepth 8000
set_option maxHeartbeats 8000000 in
theorem sL12Kill1 (dead : List Bool) (bag : List DSegm) (k : Nat) (p : Nat) (va da : Option Addr) (vc dc : Nat) (w : World) (dlo dhi lo hi : Nat) (kQ : ∀ o, w.cell? ⟨p, o, none⟩ = (#[.slice va bag.length vc, .slice da 3 dc] : Array Value)[o]?) (tQ : ∃ cur, w.heap[p]? = some (.cells cur 44 (0, 0))) (zQ : p < w.heap.size)
    (xd : Own w dlo dhi (bls 4) dead [.slice da 3 dc]) (xo : Own w lo hi shSegms bag [.slice va bag.length vc]) (l1 : lo ≤ hi) (ld : dhi ≤ p) (l2 : p < lo) (l4 : hi ≤ w.heap.size) (h3 : dead.length = 3) (h60 : bag.length ≤ 60) (hk3 : k < 3) :
    Calls Try.prog 99 #[.pointer (some ⟨p, 0, none⟩), .int .i64 k] w fun e w' => ∃ va' vc', e = .returned (.tuple #[]) ∧ (∀ o, w'.cell? ⟨p, o, none⟩ = (#[.slice va' (killF k bag).length vc', .slice da 3 dc] : Array Value)[o]?) ∧ (∃ cur, w'.heap[p]? = some (.cells cur 44 (0, 0))) ∧ p < w'.heap.size ∧ Own w' dlo dhi (bls 4) (dead.set k true) [.slice da 3 dc] ∧ Own w' lo w'.heap.size shSegms (killF k bag) [.slice va' (killF k bag).length vc'] ∧ Below dlo w w' := by
  obtain ⟨db, hdb⟩ := own_bsome xd (by omega)
  subst hdb
  obtain ⟨dsl, dfz, dgl, dgh, -, -⟩ := hOwnSlot xd
  obtain ⟨T, hT, hR⟩ := Own.rowT xo
  have hTl : T.length = bag.length := by rw [← hT]; simp
  obtain ⟨n, hn⟩ : ∃ n, bag.length = n := ⟨_, rfl⟩
  have HN : Hid (T.length = n) := by rw [hTl]; exact hn
  rw [hn] at kQ h60
  have HFIN : Hid (∀ (W : World) (v : Value) (va' : Option Addr) (m' vc' : Nat), v = .slice va' m' vc' → m' = (T.filter fun y => y.1.1 != (k : Int)).length → Below w.heap.size w W → W.ownsRow w.heap.size 48 12 v m' ((T.filter fun y => y.1.1 != (k : Int)).map (·.2.2)).flatten → ∃ old, W.cell? ⟨db, k, none⟩ = some old ∧ W.frozen? ⟨db, k, none⟩ = false ∧ (∀ o, W.frozen? ⟨p, o, none⟩ = false) ∧ m' = (killF k bag).length ∧ (∀ (W' : World), W' = (W.setCell ⟨p, 0, none⟩ v).setCell ⟨db, k, none⟩ (.bool true) → (∀ o, W'.cell? ⟨p, o, none⟩ = (#[.slice va' m' vc', .slice (some ⟨db, 0, none⟩) 3 dc] : Array Value)[o]?) ∧ (∃ cur, W'.heap[p]? = some (.cells cur 44 (0, 0))) ∧ p < W'.heap.size ∧ Own W' dlo dhi (bls 4) (dead.set k true) [.slice (some ⟨db, 0, none⟩) 3 dc] ∧ Own W' lo W'.heap.size shSegms (killF k bag) [.slice va' m' vc'] ∧ Below dlo w W')) := by
    intro W v va' m' vc' ev em hW ho
    subst ev
    obtain ⟨old, hold⟩ := dsl k (by show k < 3 * 1; omega)
    have hwz := hW.size
    have tQ2 := ty_below tQ (hW.block p zQ)
    have hm2 : m' = (killF k bag).length := by rw [em, ← hT, ← keepT, List.length_map]
    refine ⟨old, (hW.cell (p := ⟨db, k, none⟩) (show db < _ by omega)).trans hold, (hW.frozen (p := ⟨db, k, none⟩) (show db < _ by omega)).trans (dfz k), ty_frz tQ2, hm2, ?_⟩
    intro W' e
    subst e
    have hpd : p ≠ db := by omega
    have hz : ((W.setCell ⟨p, 0, none⟩ (.slice va' m' vc')).setCell ⟨db, k, none⟩ (.bool true)).heap.size = W.heap.size := by simp
    have hk1 : ∀ b, b ≠ p → b ≠ db → ((W.setCell ⟨p, 0, none⟩ (.slice va' m' vc')).setCell ⟨db, k, none⟩ (.bool true)).heap[b]? = W.heap[b]? := fun b h1 h2 => by rw [Below.heap_setCell _ _ _ _ (by dsimp only; exact h2), Below.heap_setCell _ _ _ _ (by dsimp only; exact h1)]
    refine ⟨?_, ?_, by rw [hz]; omega, ?_, ?_, ?_⟩
    · have h1 := bx_put (bx_below kQ zQ hW) (k := 0) (v := .slice va' m' vc') (by simp)
      simp only [List.setIfInBounds_toArray, List.set_cons_zero] at h1
      exact bx_off h1 hpd
    · obtain ⟨c, h⟩ := tQ2
      exact ⟨_, (Below.heap_setCell _ _ _ _ (by dsimp only; omega)).trans (heap_set h)⟩
    · have x1 : Own W dlo dhi (bls 4) dead [.slice (some ⟨db, 0, none⟩) 3 dc] := Own.below xd (by omega) hW
      have x2 : Own (W.setCell ⟨p, 0, none⟩ (.slice va' m' vc')) dlo dhi (bls 4) dead [.slice (some ⟨db, 0, none⟩) 3 dc] := Own.keep x1 (fun b _ _ => Below.heap_setCell _ _ _ _ (by dsimp only; omega))
      have x3 := (Own.stored (k := k) x2 (by omega) (hOwnBool _ dhi dhi true) (Nat.le_refl _)).1
      have e1 : setRow (W.setCell ⟨p, 0, none⟩ (.slice va' m' vc')) db (k * Sh.bool.sz) [.bool true] = (W.setCell ⟨p, 0, none⟩ (.slice va' m' vc')).setCell ⟨db, k, none⟩ (.bool true) := by show World.setCell _ ⟨db, k * 1, none⟩ _ = _; rw [Nat.mul_one]
      rw [e1] at x3
      exact x3
    · rw [← hT, ← keepT]
      refine RowT.to (RowT.sub hR List.filter_sublist (base := w.heap.size) ?_ ?_ ?_ (Nat.le_refl _) (by omega) (by rw [hz]; omega) ?_)
      · rw [← em]
        exact ownsRow_below ho (fun b e => hk1 b (by have := (ho.lt b e).1; omega) (by have := (ho.lt b e).1; omega))
      · intro b e; rw [hz]; exact (ho.lt b e).2
      · intro b h1 h2 _; rw [hk1 b (by omega) (by omega)]; exact hW.block b (by omega)
      · intro b e h; have := (ho.lt b e).1; omega
    · exact Below.setCell (p := ⟨db, k, none⟩) (Below.setCell (p := ⟨p, 0, none⟩) (hW.mono (by omega)) (show dlo ≤ p by omega) _) (show dlo ≤ db by omega) _
  have HRT : Hid (∀ W, Below w.heap.size w W → ∀ i (hi : i < T.length), (∃ g, va = some ⟨g, 0, none⟩ ∧ W.rangeAt g (i * 12) T[i].2.2) ∧ T[i].2.2.length = 12 ∧ T[i].2.2[0]? = some (.int .i64 T[i].1.1) ∧ (∀ u ∈ T[i].2.2, u.oneCell' = true)) := fun W hW i hi => by
    rw [hn] at hR
    obtain ⟨g, eg, hg1, hg2⟩ := hR.some' (by omega)
    subst eg
    exact ⟨⟨g, rfl, range_below (hR.range hi) hW (by omega)⟩, hR.len _ (List.mem_map.2 ⟨_, List.getElem_mem hi, rfl⟩), ow_path (hR.el _ (List.getElem_mem hi)), ow_one (hR.el _ (List.getElem_mem hi))⟩
  have HKQ : Hid (∀ W, Below w.heap.size w W → ∀ o, W.cell? ⟨p, o, none⟩ = (#[.slice va n vc, .slice (some ⟨db, 0, none⟩) 3 dc] : Array Value)[o]?) := fun W hW => bx_below kQ zQ hW
  have hk0 : (0 : Int) ≤ (k : Int) := by omega
  have hk33 : (k : Int) < 3 := by omega
  have HM0 : Hid ((w.alloc (.cells #[] 48)).ownsRow w.heap.size 48 12 (.slice (some ⟨w.heap.size, 0, none⟩) 0 0) 0 []) := World.ownsRow_made w #[] 0 (Nat.le_refl _) (by decide) rfl
  have HB0 : Hid (Below w.heap.size w (w.alloc (.cells #[] 48))) := (Below.refl _ _).alloc (Nat.le_refl _) _
  obtain ⟨KK, hKK⟩ : ∃ l, l = killF k bag := ⟨_, rfl⟩
  rw [← hKK] at HFIN ⊢
  clear hKK hR hT hTl hn xd xo tQ kQ dsl dfz
  go_enter Try.func99, Try.ntmps99
  go_upto_region 2 with fail
  generalize hW0 : w.alloc (.cells #[] 48) = W0 at HM0 HB0 ⊢
  clear hW0
  go_loopw [4, 5] (fun q iv wr => ∃ (i : Nat) (va' : Option Addr) (m' vc' : Nat), i ≤ n ∧ iv = .int .i64 i ∧ q = .slice va' m' vc' ∧ Hid (m' = ((T.take i).filter fun y => y.1.1 != (k : Int)).length) ∧ Hid (wr.ownsRow w.heap.size 48 12 (.slice va' m' vc') m' (((T.take i).filter fun y => y.1.1 != (k : Int)).map (·.2.2)).flatten) ∧ Hid (Below w.heap.size w wr)) (fun _ iv _ => n - (intOf iv).toNat)
  case atStart => exact ⟨0, _, 0, 0, Nat.zero_le _, rfl, rfl, (by simp : 0 = ((T.take 0).filter fun y => y.1.1 != (k : Int)).length), by simpa using HM0, HB0⟩
  case round =>
    clear HM0 HB0
    obtain ⟨i, va', m', vc', hi, rfl, rfl, HM, HO, HB⟩ := hrel
    have j0 := HKQ.out wr HB.out
    by_cases hlt : i < n
    · have hil : i < T.length := by have := HN.out; omega
      obtain ⟨⟨g, hg, hrg⟩, hlen, hc0, hone⟩ := HRT.out wr HB.out i hil
      subst hg
      have hcp : wr.cell? ⟨g, i * 12, none⟩ = some (.int .i64 T[i].1.1) := by have := hrg 0 _ hc0; simpa using this
      have HFT : Hid _ := filt_take (x := (k : Int)) hil
      have HIX : Hid ((Try.prog.info? 48).map (·.size) = some T[i].2.2.length) := by show _ = _; rw [hlen]; exact info_SG12
      have HG : Hid (wr.rangeAt g (i * 12) T[i].2.2) := hrg
      have HONE : Hid _ := hone
      have hm60 : m' ≤ 60 := by have h := HM.out; have h2 := List.length_filter_le (fun y : El3 => y.1.1 != (k : Int)) (T.take i); simp at h2; omega
      clear hrg hc0 hone
      generalize T[i] = y at *
      obtain ⟨sx, sb, sc⟩ := y
      simp only at hcp HFT HIX HG HONE hlen
      have hi0 : (0 : Int) ≤ (i : Int) := by omega
      have hin : (i : Int) < (n : Int) := by omega
      by_cases hp : sx.1 = k
      · have hp' : ((k : Int) != (k : Int)) = false := by simp
        have HF2 : Hid (((T.take (i + 1)).filter fun y => y.1.1 != (k : Int)) = ((T.take i).filter fun y => y.1.1 != (k : Int))) := by have h := HFT.out; rw [if_neg (by simp [hp]), List.append_nil] at h; exact h
        rw [hp] at hcp
        clear HFT HG HIX HONE
        go_wp2_with fail
        go_roundw
        case rel => exact ⟨i + 1, va', m', vc', by omega, by go_num, rfl, by rw [HF2.out]; exact HM, by rw [HF2.out]; exact HO, HB⟩
        case measure => simp [intOf]; omega
      · have hp' : (sx.1 != (k : Int)) = true := by simp [hp]
        have HF2 : Hid (((T.take (i + 1)).filter fun y => y.1.1 != (k : Int)) = ((T.take i).filter fun y => y.1.1 != (k : Int)) ++ [(sx, sb, sc)]) := by have h := HFT.out; rw [if_pos hp'] at h; exact h
        clear HFT
        obtain ⟨e0, e1, e2, e3, e4, e5, e6, e7, e8, e9, e10, e11, hsc⟩ := lst12 hlen
        subst hsc
        have HNW : Hid (∀ q', (some ⟨wr.heap.size, 0, none⟩ : Option Addr) = some q' → ∀ j u, [e0, e1, e2, e3, e4, e5, e6, e7, e8, e9, e10, e11][j]? = some u → (wr.alloc (.cells #[e0, e1, e2, e3, e4, e5, e6, e7, e8, e9, e10, e11] 48)).cell? (q'.add j) = some u) := fun q' hq j u hj => by
          simp only [Option.some.injEq] at hq
          subst hq
          exact cells_new wr [e0, e1, e2, e3, e4, e5, e6, e7, e8, e9, e10, e11] _ j u hj
        have HO2 : Hid ((wr.alloc (.cells #[e0, e1, e2, e3, e4, e5, e6, e7, e8, e9, e10, e11] 48)).ownsRow w.heap.size 48 12 (.slice va' m' vc') m' (((T.take i).filter fun y => y.1.1 != (k : Int)).map (·.2.2)).flatten) := ownsRow_below HO.out (fun b e => Below.heap_alloc _ _ _ (HO.out.lt b e).2)
        have hzw := HB.out.size
        have hza : w.heap.size ≤ (wr.alloc (.cells #[e0, e1, e2, e3, e4, e5, e6, e7, e8, e9, e10, e11] 48)).heap.size := by simp; omega
        go_wp2_with (first | (refine wpList_load_mid rfl 48 _ rfl _ _ (by rfl) [e0, e1, e2, e3, e4, e5, e6, e7, e8, e9, e10, e11] _ HG.out Try.underlying48 rfl HIX.out ?_) | (at_builtin; refine app_row (wr.alloc (.cells #[e0, e1, e2, e3, e4, e5, e6, e7, e8, e9, e10, e11] 48)) rfl _ _ rfl w.heap.size (.slice va' m' vc') m' _ (by rfl) HO2.out (some ⟨wr.heap.size, 0, none⟩) 1 1 [e0, e1, e2, e3, e4, e5, e6, e7, e8, e9, e10, e11] (by rfl) (by simp) rfl HNW.out HONE.out (by omega) hza ?_; intro a3 c3 w3 ho3 hb3 hg3))
        have HB3 : Hid (Below w.heap.size w w3) := (HB.out.alloc HB.out.size _).trans hb3
        have ho4 : w3.ownsRow w.heap.size 48 12 (.slice a3 (m' + 1) c3) (m' + 1) (((T.take (i + 1)).filter fun y => y.1.1 != (k : Int)).map (·.2.2)).flatten := by rw [HF2.out, List.map_append, List.flatten_append]; simpa using ho3
        have HO3 : Hid _ := ho4
        have HM3 : Hid (m' + 1 = ((T.take (i + 1)).filter fun y => y.1.1 != (k : Int)).length) := by rw [HF2.out, List.length_append]; have h := HM.out; simp; exact h
        go_roundw
        case rel => exact ⟨i + 1, a3, m' + 1, c3, by omega, by go_num, rfl, HM3, HO3, HB3⟩
        case measure => simp [intOf]; omega
    · obtain rfl : i = n := by omega
      have hTi : T.take i = T := by rw [← HN.out, List.take_length]
      rw [hTi] at HM HO
      obtain ⟨old, hold, hfz, hfp, hmm, HEND⟩ := HFIN.out wr _ va' m' vc' rfl HM.out HB.out HO.out
      have HMM : Hid (m' = KK.length) := hmm
      clear hmm
      have HE := HEND _ rfl
      have HE2 : Hid _ := HE
      have hdp : db < p := by omega
      clear HE HEND HFIN HRT HO HM hTi
      have hold2 : (wr.setCell ⟨p, 0, none⟩ (.slice va' m' vc')).cell? ⟨db, k, none⟩ = some old := by rw [World.cell?_of_block (Below.heap_setCell _ _ _ _ (by dsimp only; omega))]; exact hold
      have hfz2 : (wr.setCell ⟨p, 0, none⟩ (.slice va' m' vc')).frozen? ⟨db, k, none⟩ = false := by rw [World.frozen?_setCell]; exact hfz
      have j1 := bx_put j0 (k := 0) (v := .slice va' m' vc') (by simp)
      simp only [List.setIfInBounds_toArray, List.set_cons_zero] at j1
      go_upto_region 7 with fail
      clear j0 hold hfz hfp
      go_wp2_with fail
      have h := HE2.out
      rw [HMM.out] at h
      exact ⟨rfl, .tuple #[], by simp [results, Try.results99], va', vc', rfl, by rw [HMM.out]; exact h⟩
end Go.Proofs.Ytebgibjokljlbaa
