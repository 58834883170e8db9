/- What the program makes of a copy of a gather: it owns its memory; nothing that was in memory turns; no condition but that there are at most a million parts. Written by mkcopy.py. -/
import Derived.Test.YtcbgedlckcjjnaaGreatRows
import Derived.Deep.RegionHeld3
import Derived.Deep.DeepCutAuto
import Derived.Deep.DeepMust
import Derived.Deep.MidRow
import Derived.Test.YtcbgedlckcjjnaaGreatK01
import Derived.Test.YtcbgedlckcjjnaaGreatK02
import Derived.Test.YtcbgedlckcjjnaaGreatK03
import Derived.Test.YtcbgedlckcjjnaaGreatK09
import Derived.Test.YtcbgedlckcjjnaaGreatK10
import Derived.Test.YtcbgedlckcjjnaaGreatK17
import Derived.Test.YtcbgedlckcjjnaaGreatK42
import Derived.Test.YtcbgedlckcjjnaaGreatK64
namespace Go.Proofs.YtcbgedlckcjjnaaGreat
open Go.RowKit
set_option linter.unusedVariables false
set_option maxRecDepth 8000

theorem iCopyB9 (a : Option Addr) (n cap : Nat) (l : List Int) (w : World) (hl : l.length = n) (hr : RB w a l) (hnil : a = none → cap = 0) (hn : n ≤ 1048576) :
    Calls Tryz.prog 124 #[.slice a n cap] w fun e w' => ∃ b1 c1, e = .returned (.slice b1 n c1) ∧ Own w' w.heap.size w'.heap.size u8s l [.slice b1 n c1] ∧ Below w.heap.size w w' := by
  go_enter Tryz.func124, Tryz.ntmps124
  go_wp2_with (at_builtin; go_loud (refine app_pl w rfl _ _ 22 22 rfl Tryz.underlying22 Tryz.underlying22 w.heap.size (.slice none 0 0) [] (by rfl) ⟨⟨rfl, Or.inl ⟨rfl, rfl⟩⟩, by simp⟩ a l n cap hl (by rfl) hr hnil (by simp; omega) (Nat.le_refl _) ?_; intro v' w5 ho5 hb5 hg5 hat5; rw [List.nil_append] at ho5; obtain ⟨b1, c1, hv1, -, -⟩ := ho5.rbn; rw [hl] at hv1; subst hv1))
  go_ret
  exact ⟨_, _, rfl, own_bytes ho5 (Nat.le_refl _), hb5⟩
theorem two_boxesG {w w1 : World} {A Z : Array Value} {t t' : TypeId} (hb : Below ((w.alloc (.cells A t)).alloc (.cells Z t')).heap.size ((w.alloc (.cells A t)).alloc (.cells Z t')) w1) :
    (∀ o, w1.cell? ⟨w.heap.size, o, none⟩ = A[o]?) ∧ (∀ o, w1.cell? ⟨w.heap.size + 1, o, none⟩ = Z[o]?) ∧ (∀ o, w1.frozen? ⟨w.heap.size + 1, o, none⟩ = false) ∧ Below w.heap.size w w1 ∧ w.heap.size + 1 < w1.heap.size := by
  refine ⟨fun o => ?_, fun o => ?_, fun o => ?_, ?_, ?_⟩
  · rw [hb.cell (p := ⟨w.heap.size, o, none⟩) (by simp; omega)]; simp [go_sem]
  · rw [hb.cell (p := ⟨w.heap.size + 1, o, none⟩) (by simp)]; simp [go_sem]
  · rw [hb.frozen (p := ⟨w.heap.size + 1, o, none⟩) (by simp)]; simp [go_sem]
  · exact Below.trans (((Below.refl _ _).alloc (Nat.le_refl _) _).alloc (by simp) _) (hb.mono (by simp; omega))
  · have := hb.size; simp at this; omega
theorem bxC {C : Nat} {w w' : World} {b : Nat} {A : Array Value} (h : ∀ o, w.cell? ⟨b, o, none⟩ = A[o]?) (hb : Below C w w') (hlt : b < C) : ∀ o, w'.cell? ⟨b, o, none⟩ = A[o]? := fun o => (hb.cell (p := ⟨b, o, none⟩) hlt).trans (h o)
theorem fxC {C : Nat} {w w' : World} {b : Nat} (h : ∀ o, w.frozen? ⟨b, o, none⟩ = false) (hb : Below C w w') (hlt : b < C) : ∀ o, w'.frozen? ⟨b, o, none⟩ = false := fun o => (hb.frozen (p := ⟨b, o, none⟩) hlt).trans (h o)
theorem pcs_at_tot {ps : List Pc} {k : Nat} (hk : k < ps.length) : ps[k].2.1.length ≤ pcsTot ps := by have h := dsum_at hk; unfold pcsTot; omega
theorem own_pcs0 (w : World) (lo hi : Nat) : Own w lo hi pcsS [] [.slice none 0 0] := ⟨[], Or.inl ⟨rfl, rfl, rfl⟩, by simp, by simp⟩
theorem bx_p1 {w : World} {b : Nat} {x0 x1 v : Value} (h : ∀ o, w.cell? ⟨b, o, none⟩ = (#[x0, x1] : Array Value)[o]?) : ∀ o, (w.setCell ⟨b, 1, none⟩ v).cell? ⟨b, o, none⟩ = (#[x0, v] : Array Value)[o]? := by
  have h2 := bx_put h (k := 1) (v := v) (by simp)
  simpa using h2
theorem bx_pp {w : World} {b : Nat} {x0 x1 u v : Value} (h : ∀ o, w.cell? ⟨b, o, none⟩ = (#[x0, x1] : Array Value)[o]?) : ∀ o, ((w.setCell ⟨b, 0, none⟩ u).setCell ⟨b, 1, none⟩ v).cell? ⟨b, o, none⟩ = (#[u, v] : Array Value)[o]? := by
  have h2 := bx_put (bx_put h (k := 0) (v := u) (by simp)) (k := 1) (v := v) (by simp)
  simpa using h2
theorem info_pc9 : (Tryz.prog.info? 189).map (fun i => (i.zero, i.size, i.bytes)) = some (some (.agg #[.int .i64 0, .slice none 0 0]), 2, 32) := by kernel_rfl
set_option maxHeartbeats 8000000 in
theorem iCopyGather (g : Gt) (v1 v2 : Value) (w : World) (B : Nat) (hr : gtS.Rd w B g [v1, v2]) (hB : B ≤ w.heap.size) (hT : gtTot g ≤ 1048576) (hL : g.2.1.length ≤ 1000) :
    Calls Tryz.prog 170 #[.agg #[v1, v2]] w fun e w' => ∃ u1 u2, e = .returned (.agg #[u1, u2]) ∧ Own w' w.heap.size w'.heap.size gtS g [u1, u2] ∧ Below w.heap.size w w' := by
  obtain ⟨a1, c1, a2, c2, ev, r1, r2⟩ := rd_gt hr
  simp only [List.cons.injEq, and_true] at ev
  obtain ⟨rfl, rfl⟩ := ev
  obtain ⟨dn, ps, ⟨⟩⟩ := g
  have hT2 : dn.length + pcsTot ps ≤ 1048576 := hT
  have hL2 : ps.length ≤ 1000 := hL
  obtain ⟨sa1, sc1, es1, rb1, hnil1, -⟩ := rd_bytes r1
  simp only [List.cons.injEq, Value.slice.injEq, and_true, true_and] at es1
  obtain ⟨rfl, rfl⟩ := es1
  have HC1 : Hid (∀ W, Below w.heap.size w W → Calls Tryz.prog 124 #[.slice a1 dn.length c1] W fun e w' => ∃ b1 k1, e = .returned (.slice b1 dn.length k1) ∧ Own w' W.heap.size w'.heap.size u8s dn [.slice b1 dn.length k1] ∧ Below W.heap.size W w') := fun W hW => iCopyB9 a1 _ c1 dn W rfl (rb1.below (Nat.le_refl _) hW) hnil1 (by omega)
  have HPT : Hid (∀ k (hk : k < ps.length), ps[k].2.1.length ≤ 1048576) := fun k hk => by have h := pcs_at_tot hk; omega
  obtain ⟨n, hn⟩ : ∃ n, ps.length = n := ⟨_, rfl⟩
  have HN : Hid (ps.length = n) := hn
  have HRd : Hid (∀ W, Below w.heap.size w W → pcsS.Rd W B ps [.slice a2 n c2]) := fun W hW => by have h := Sh.Rd.below r2 hB hW; rw [← hn]; exact h
  show Calls _ _ #[.agg #[.slice a1 dn.length c1, .slice a2 ps.length c2]] _ fun e w' => ∃ u1 u2, e = .returned (.agg #[u1, u2]) ∧ Own w' w.heap.size w'.heap.size gtS (dn, ps, ()) [u1, u2] ∧ _
  rw [hn] at hL2 ⊢
  clear hr r1 r2 rb1 hnil1 hT hT2 hL hn
  obtain ⟨dm, hdm⟩ : ∃ m, dn.length = m := ⟨_, rfl⟩
  rw [hdm] at HC1 ⊢
  clear hdm
  go_enter Tryz.func170, Tryz.ntmps170
  go_wp2_with fail
  refine (HC1.out _ (by go_grown)).mono ?_
  rintro e w1 ⟨b1, d1, rfl, ho1, hb1⟩
  obtain ⟨k0, kR, fR, hbq, z0⟩ := two_boxesG hb1
  have HO1 : Hid (Own w1 (w.heap.size + 1 + 1) w1.heap.size u8s dn [.slice b1 dm d1]) := by show Own _ _ _ _ _ _; simpa using ho1
  have HB : Hid (Below w.heap.size w w1) := hbq
  clear ho1 hb1 hbq HC1
  go_upto_region 2 with fail
  have kQ : ∀ o, (w1.alloc (.cells #[.slice b1 dm d1, .slice none 0 0] 36)).cell? ⟨w1.heap.size, o, none⟩ = (#[.slice b1 dm d1, .slice none 0 0] : Array Value)[o]? := bx_al w1 _ _
  have fQ : ∀ o, (w1.alloc (.cells #[.slice b1 dm d1, .slice none 0 0] 36)).frozen? ⟨w1.heap.size, o, none⟩ = false := fx_al w1 _ _
  have hb2 : Below w1.heap.size w1 (w1.alloc (.cells #[.slice b1 dm d1, .slice none 0 0] 36)) := (Below.refl _ _).alloc (Nat.le_refl _) _
  have zQ : w1.heap.size < (w1.alloc (.cells #[.slice b1 dm d1, .slice none 0 0] 36)).heap.size := by simp
  generalize hW2 : w1.alloc (.cells #[.slice b1 dm d1, .slice none 0 0] 36) = W2 at kQ fQ hb2 zQ ⊢
  clear hW2
  replace k0 := bx_below k0 (by omega) hb2
  replace kR := bx_below kR z0 hb2
  replace fR := bxF fR hb2 z0
  replace HO1 : Hid (Own W2 (w.heap.size + 1 + 1) w1.heap.size u8s dn [.slice b1 dm d1]) := HO1.out.below (Nat.le_refl _) hb2
  replace HB : Hid (Below w.heap.size w W2) := HB.out.trans (hb2.mono HB.out.size)
  obtain ⟨q, hq⟩ : ∃ q, q = w1.heap.size := ⟨_, rfl⟩
  rw [← hq] at z0 kQ fQ zQ HO1 ⊢
  clear hb2 hq
  go_upto_region 3 with fail
  clear k0
  go_loopw [13] (fun i wr => ∃ (k : Nat) (va : Option Addr) (vc : Nat), k ≤ n ∧ i = .int .i64 k ∧ (∀ o, wr.cell? ⟨w.heap.size + 1, o, none⟩ = (#[.slice none 0 0, .slice none 0 0] : Array Value)[o]?) ∧ (∀ o, wr.frozen? ⟨w.heap.size + 1, o, none⟩ = false) ∧ (∀ o, wr.cell? ⟨q, o, none⟩ = (#[.slice b1 dm d1, .slice va k vc] : Array Value)[o]?) ∧ (∀ o, wr.frozen? ⟨q, o, none⟩ = false) ∧ Hid (Own wr (q + 1) wr.heap.size pcsS (ps.take k) [.slice va k vc]) ∧ Hid (Own wr (w.heap.size + 1 + 1) q u8s dn [.slice b1 dm d1]) ∧ Hid (Below w.heap.size w wr) ∧ q < wr.heap.size) (fun i _ => n - (intOf i).toNat)
  case atStart => exact ⟨0, none, 0, Nat.zero_le _, rfl, kR, fR, kQ, fQ, own_pcs0 _ _ _, HO1, HB, zQ⟩
  case round =>
    clear kR fR kQ fQ HO1 HB zQ
    obtain ⟨k, va, vc, hk, rfl, kR, fR, kQ, fQ, HO, HO1, HB, zQ⟩ := hrel
    by_cases hlt : k < n
    · have hkl : k < ps.length := by have := HN.out; omega
      obtain ⟨pa, pcap, eP, -, -, hat⟩ := rd_pcs (HRd.out wr HB.out)
      obtain ⟨b, off, sa, sc, ha, hb, q0, q1, r3, hwf⟩ := hat k hkl
      have hap : a2 = pa := by have e := eP; rw [HN.out] at e; simp only [List.cons.injEq, Value.slice.injEq, and_true, true_and] at e; exact e.1
      subst hap
      subst ha
      clear eP hat
      obtain ⟨sa', sc', es, rb, hnil, -⟩ := rd_bytes r3
      simp only [List.cons.injEq, Value.slice.injEq, and_true, true_and] at es
      obtain ⟨rfl, rfl⟩ := es
      have hnn := HPT.out k hkl
      have HTK : Hid (ps.take (k + 1) = ps.take k ++ [(ps[k].1, ps[k].2.1, ())]) := List.take_succ_eq_append_getElem hkl
      have HLL : Hid ((ps.take k).length = k) := by show _ = _; simp; omega
      have HWZ : Hid ((Lit.int .i64 ps[k].1).wf = true) := wf_i64' hwf
      have HCF : Hid (∀ W, Below wr.heap.size wr W → Calls Tryz.prog 124 #[.slice sa ps[k].2.1.length sc] W fun e w' => ∃ b2 d2, e = .returned (.slice b2 ps[k].2.1.length d2) ∧ Own w' W.heap.size w'.heap.size u8s ps[k].2.1 [.slice b2 ps[k].2.1.length d2] ∧ Below W.heap.size W w') := fun W hW => iCopyB9 sa _ sc _ W rfl (rb.below (Nat.le_refl _) hW) hnil hnn
      clear r3 rb hnil hwf
      generalize ps[k].1 = z0 at *
      generalize ps[k].2.1 = d at *
      generalize d.length = m at *
      have hk0 : (0 : Int) ≤ (k : Int) := by omega
      have hkn : (k : Int) < (n : Int) := by omega
      go_upto_region 5 with fail
      obtain ⟨V, hV⟩ : ∃ V, V = wr.alloc (.cells #[.int .i64 z0, .slice sa m sc] 189) := ⟨_, rfl⟩
      rw [← hV]
      have kP : ∀ o, V.cell? ⟨wr.heap.size, o, none⟩ = (#[.int .i64 z0, .slice sa m sc] : Array Value)[o]? := by rw [hV]; exact bx_al wr _ _
      have hbV : Below wr.heap.size wr V := by rw [hV]; exact (Below.refl _ _).alloc (Nat.le_refl _) _
      have hVz : wr.heap.size < V.heap.size := by rw [hV]; simp
      clear hV q0 q1
      replace kR := bx_below kR (by omega) hbV
      replace fR := bxF fR hbV (by omega)
      replace kQ := bx_below kQ zQ hbV
      replace fQ := bxF fQ hbV zQ
      have HOV : Hid (Own V (q + 1) wr.heap.size pcsS (ps.take k) [.slice va k vc]) := HO.out.below (Nat.le_refl _) hbV
      replace HO1 : Hid (Own V (w.heap.size + 1 + 1) q u8s dn [.slice b1 dm d1]) := HO1.out.below (by omega) hbV
      have HBV : Hid (Below wr.heap.size wr V) := hbV
      have hszw := HB.out.size
      replace HB : Hid (Below w.heap.size w V) := HB.out.trans (hbV.mono HB.out.size)
      obtain ⟨pB, hpB⟩ : ∃ pB, pB = wr.heap.size := ⟨_, rfl⟩
      rw [← hpB] at zQ kP hVz HOV hszw ⊢
      have HCG : Hid (∀ W, Below V.heap.size V W → Calls Tryz.prog 124 #[.slice sa m sc] W fun e w' => ∃ b2 d2, e = .returned (.slice b2 m d2) ∧ Own w' W.heap.size w'.heap.size u8s d [.slice b2 m d2] ∧ Below W.heap.size W w') := fun W hW => HCF.out W (HBV.out.trans (hW.mono (by omega)))
      clear hbV HBV hpB HO HCF
      obtain ⟨mm, hmm⟩ : ∃ mm, w.heap.size + mm = pB + 1 := ⟨pB + 1 - w.heap.size, by omega⟩
      have HS : Hid (SB2 w mm q pB #[.slice b1 dm d1, .slice va k vc] #[.int .i64 z0, .slice sa m sc] V) := ⟨HB.out, by omega, kQ, kP⟩
      refine wp_region_noPanic ?_
      refine Goes.start (S := SB2 w mm q pB #[.slice b1 dm d1, .slice va k vc] #[.int .i64 z0, .slice sa m sc]) (z := 11) (by kernel_rfl) ?_
      refine Goes.take (i := 0) (oi := ?oi11) (x := ?vx11) ?ho11 (by kernel_rfl) (by kernel_rfl) (by kernel_rfl) (by kernel_rfl) (fun _ _ _ h => h) (Or.inl ⟨?hw11, ?hy11⟩) HS.out.drew ?rest11
      case ho11 => (simp only [List.getElem?_toArray, List.getElem?_cons_zero]; rfl)
      case hw11 => rfl
      case hy11 => (intro w' hSw; have j0 := hSw.k0; have j1 := hSw.k1; go_simp; (try with_reducible rfl))
      case rest11 =>
      (try simp only [Act.put, List.setIfInBounds_toArray, List.set_cons_zero, List.set_cons_succ])
      refine Goes.take (i := 1) (oi := ?oi12) (x := ?vx12) ?ho12 (by kernel_rfl) (by kernel_rfl) (by kernel_rfl) (by kernel_rfl) (fun _ _ _ h => h) (Or.inl ⟨?hw12, ?hy12⟩) HS.out.drew ?rest12
      case ho12 => (simp only [List.getElem?_toArray, List.getElem?_cons_succ, List.getElem?_cons_zero]; rfl)
      case hw12 => rfl
      case hy12 => (intro w' hSw; have j0 := hSw.k0; have j1 := hSw.k1; go_simp; (try with_reducible rfl))
      case rest12 =>
      (try simp only [Act.put, List.setIfInBounds_toArray, List.set_cons_zero, List.set_cons_succ])
      refine Goes.take (i := 2) (oi := ?oi13) (x := ?vx13) ?ho13 (by kernel_rfl) (by kernel_rfl) (by kernel_rfl) (by kernel_rfl) (fun _ _ _ h => h) (Or.inl ⟨?hw13, ?hy13⟩) HS.out.drew ?rest13
      case ho13 => (simp only [List.getElem?_toArray, List.getElem?_cons_succ, List.getElem?_cons_zero]; rfl)
      case hw13 => rfl
      case hy13 => (intro w' hSw; have j0 := hSw.k0; have j1 := hSw.k1; go_simp; (try with_reducible rfl))
      case rest13 =>
      (try simp only [Act.put, List.setIfInBounds_toArray, List.set_cons_zero, List.set_cons_succ])
      refine Goes.take (i := 3) (oi := ?oi14) (x := ?vx14) ?ho14 (by kernel_rfl) (by kernel_rfl) (by kernel_rfl) (by kernel_rfl) (fun _ _ _ h => h) (Or.inl ⟨?hw14, ?hy14⟩) HS.out.drew ?rest14
      case ho14 => (simp only [List.getElem?_toArray, List.getElem?_cons_succ, List.getElem?_cons_zero]; rfl)
      case hw14 => rfl
      case hy14 => (intro w' hSw; have j0 := hSw.k0; have j1 := hSw.k1; go_simp; (try with_reducible rfl))
      case rest14 =>
      (try simp only [Act.put, List.setIfInBounds_toArray, List.set_cons_zero, List.set_cons_succ])
      refine Goes.take (i := 4) (oi := ?oi15) (x := ?vx15) ?ho15 (by kernel_rfl) (by kernel_rfl) (by kernel_rfl) (by kernel_rfl) (fun _ _ _ h => h) (Or.inl ⟨?hw15, ?hy15⟩) HS.out.drew ?rest15
      case ho15 => (simp only [List.getElem?_toArray, List.getElem?_cons_succ, List.getElem?_cons_zero]; rfl)
      case hw15 => rfl
      case hy15 => (intro w' hSw; have j0 := hSw.k0; have j1 := hSw.k1; go_simp; (try with_reducible rfl))
      case rest15 =>
      (try simp only [Act.put, List.setIfInBounds_toArray, List.set_cons_zero, List.set_cons_succ])
      refine Goes.take (i := 5) (oi := ?oi16) (x := ?vx16) ?ho16 (by kernel_rfl) (by kernel_rfl) (by kernel_rfl) (by kernel_rfl) (fun _ _ _ h => h) (Or.inl ⟨?hw16, ?hy16⟩) HS.out.drew ?rest16
      case ho16 => (simp only [List.getElem?_toArray, List.getElem?_cons_succ, List.getElem?_cons_zero]; rfl)
      case hw16 => rfl
      case hy16 => (intro w' hSw; have j0 := hSw.k0; have j1 := hSw.k1; go_simp; (try with_reducible rfl))
      case rest16 =>
      (try simp only [Act.put, List.setIfInBounds_toArray, List.set_cons_zero, List.set_cons_succ])
      refine Goes.all (rs := [6]) (by kernel_rfl) (by simp) ?_
      refine Ups.cons (i := 6) (o := ?oo17) ?ho17 (fun KK hKK => ?stp17) Ups.nil
      case ho17 => (simp only [List.getElem?_toArray, List.getElem?_cons_succ, List.getElem?_cons_zero]; rfl)
      case stp17 =>
      go_simp
      go_at_call 124
      refine (HCG.out _ (Below.drew (Below.refl _ _))).mono ?_
      rintro e w2 ⟨b2, d2, rfl, ho2, hbq⟩
      have HS6 : Hid (SB2 w mm q pB #[.slice b1 dm d1, .slice va k vc] #[.int .i64 z0, .slice sa m sc] w2) := SB2.below HS.out.drew hbq (by omega) (by omega)
      replace hbq := (Below.drew (Below.refl V.heap.size V)).trans hbq
      have HE1 : Hid (Own w2 V.heap.size w2.heap.size pcS (z0, d, ()) [.int .i64 z0, .slice b2 m d2]) := hOwnCons (hOwnInt w2 V.heap.size V.heap.size HWZ.out) (hOwnCons ho2 (hOwnNil _ _ _) hbq.size (Nat.le_refl _)) (Nat.le_refl _) hbq.size
      have HOW : Hid (Own w2 (q + 1) pB pcsS (ps.take k) [.slice va k vc]) := HOV.out.below (by omega) hbq
      replace HO1 : Hid (Own w2 (w.heap.size + 1 + 1) q u8s dn [.slice b1 dm d1]) := HO1.out.below (by omega) hbq
      replace kR := bx_below kR (by omega) hbq
      replace fR := bxF fR hbq (by omega)
      replace kQ := bx_below kQ (by omega) hbq
      replace fQ := bxF fQ hbq (by omega)
      have hz2 := hbq.size
      clear ho2 hbq HOV HCG kP
      dsimp only
      refine hKK.out _ _ (Or.inr HS6.out) ?_
      clear hKK KK
      (try simp only [Act.put, List.setIfInBounds_toArray, List.set_cons_zero, List.set_cons_succ])
      refine Goes.take (i := 7) (oi := ?oi18) (x := ?vx18) ?ho18 (by kernel_rfl) (by kernel_rfl) (by kernel_rfl) (by kernel_rfl) (fun _ _ _ h => h) (Or.inl ⟨?hw18, ?hy18⟩) HS6.out ?rest18
      case ho18 => (simp only [List.getElem?_toArray, List.getElem?_cons_succ, List.getElem?_cons_zero]; rfl)
      case hw18 => rfl
      case hy18 => (intro w' hSw; have j0 := hSw.k0; have j1 := hSw.k1; go_simp; (try with_reducible rfl))
      case rest18 =>
      (try simp only [Act.put, List.setIfInBounds_toArray, List.set_cons_zero, List.set_cons_succ])
      refine Goes.all (rs := [8]) (by kernel_rfl) (by simp) ?_
      refine Ups.cons (i := 8) (o := ?oo19) ?ho19 (fun KK hKK => ?stp19) Ups.nil
      case ho19 => (simp only [List.getElem?_toArray, List.getElem?_cons_succ, List.getElem?_cons_zero]; rfl)
      case stp19 =>
      go_simp
      refine hKK.out _ _ (Or.inr (SB2.alloc HS6.out _ (by omega) (by omega))) ?_
      clear hKK KK
      (try simp only [Act.put, List.setIfInBounds_toArray, List.set_cons_zero, List.set_cons_succ])
      refine Goes.all (rs := [9]) (by kernel_rfl) (by simp) ?_
      refine Ups.cons (i := 9) (o := ?oo20) ?ho20 (fun KK hKK => ?stp20) Ups.nil
      case ho20 => (simp only [List.getElem?_toArray, List.getElem?_cons_succ, List.getElem?_cons_zero]; rfl)
      case stp20 =>
      refine app_elem_st w2 (by rfl) _ _ 34 189 (by rfl) pcS (.agg #[.int .i64 0, .slice none 0 0]) 32 Tryz.underlying34 info_pc9 rfl (by decide) (by decide) (q + 1) pB V.heap.size w2.heap.size (ps.take k) (.slice va k vc) (by rfl) w2.heap.size rfl (by rfl) HOW.out (z0, d, ()) [.int .i64 z0, .slice b2 m d2] HE1.out (by omega) (by omega) (Nat.le_refl _) (by have := HLL.out; omega) (by omega) ?_
      intro v3 w3 ho3 hb3 hk3 hs3
      obtain ⟨va3, vc3, hv3⟩ := row_form (ho3.rd (Nat.le_refl _))
      simp only [List.cons.injEq, and_true, List.length_append, List.length_cons, List.length_nil, HLL.out] at hv3
      subst hv3
      have HO3 : Hid (Own w3 (q + 1) w3.heap.size pcsS (ps.take (k + 1)) [.slice va3 (k + 1) vc3]) := by rw [HTK.out]; exact ho3
      have hno : (Value.slice va k vc).ownBlock ≠ some pB := fun e => by have := HOW.out.blk e; omega
      have HS9 : Hid (SB2 w mm q pB #[.slice b1 dm d1, .slice va k vc] #[.int .i64 z0, .slice sa m sc] w3) := ⟨HS6.out.bl.trans (hb3.mono (by omega)), Nat.le_trans HS6.out.sz (Nat.le_of_lt hs3), bxC HS6.out.k0 hb3 (show q < q + 1 by omega), fun o => (World.cell?_of_block (hk3 pB (by have := HS6.out.sz; omega) hno)).trans (HS6.out.k1 o)⟩
      replace HO1 : Hid (Own w3 (w.heap.size + 1 + 1) q u8s dn [.slice b1 dm d1]) := HO1.out.below (show q ≤ q + 1 by omega) hb3
      replace kR := bxC kR hb3 (show w.heap.size + 1 < q + 1 by omega)
      replace fR := fxC fR hb3 (show w.heap.size + 1 < q + 1 by omega)
      replace kQ := bxC kQ hb3 (show q < q + 1 by omega)
      replace fQ := fxC fQ hb3 (show q < q + 1 by omega)
      clear ho3 hb3 hk3 HOW HE1
      refine hKK.out _ _ (Or.inr HS9.out) ?_
      clear hKK KK
      (try simp only [Act.put, List.setIfInBounds_toArray, List.set_cons_zero, List.set_cons_succ])
      refine Goes.take (i := 10) (oi := ?oi21) (x := ?vx21) ?ho21 (by kernel_rfl) (by kernel_rfl) (by kernel_rfl) (by kernel_rfl) (fun _ _ _ h => h) (Or.inl ⟨?hw21, ?hy21⟩) HS9.out ?rest21
      case ho21 => (simp only [List.getElem?_toArray, List.getElem?_cons_succ, List.getElem?_cons_zero]; rfl)
      case hw21 => rfl
      case hy21 => (intro w' hSw; have j0 := hSw.k0; have j1 := hSw.k1; go_simp; (try with_reducible rfl))
      case rest21 =>
      (try simp only [Act.put, List.setIfInBounds_toArray, List.set_cons_zero, List.set_cons_succ])
      refine Goes.all (rs := [11]) (by kernel_rfl) (by simp) ?_
      refine Ups.cons (i := 11) (o := ?oo22) ?ho22 (fun KK hKK => ?stp22) Ups.nil
      case ho22 => (simp only [List.getElem?_toArray, List.getElem?_cons_succ, List.getElem?_cons_zero]; rfl)
      case stp22 =>
      go_simp
      refine hKK.out _ _ (Or.inl rfl) ?_
      clear hKK KK
      (try simp only [Act.put])
      refine Goes.done (by kernel_rfl) ?_ _
      refine NoPanic.normal ?_
      go_wp2_with fail
      go_roundw
      case rel => exact ⟨k + 1, va3, vc3, by omega, by go_num, bx_setC kR (show w.heap.size + 1 ≠ q by omega), fx_setC fR, bx_p1 kQ, fx_setC fQ, Own.mono (Own.keep HO3.out fun b h1 h2 => Below.heap_setCell _ _ _ _ (by dsimp only; omega)) (Nat.le_refl _) (by simp), Own.keep HO1.out (fun b h1 h2 => Below.heap_setCell _ _ _ _ (by dsimp only; omega)), Below.setCell (p := ⟨q, 1, none⟩) HS9.out.bl (show w.heap.size ≤ q by omega) _, by have := HS9.out.sz; simp; omega⟩
      case measure => simp [intOf]; omega
    · obtain rfl : k = n := by omega
      have HO2 : Hid (Own wr (q + 1) wr.heap.size pcsS ps [.slice va k vc]) := by have h := HO.out; rw [← HN.out, List.take_length] at h; rw [← HN.out]; exact h
      have hszw := HB.out.size
      go_wp2_with fail
      refine bodyPost_ret (results_box Tryz.results170 _ _ _ #[.slice b1 dm d1, .slice va k vc] _ (by rfl) (bx_pp kR) Tryz.underlying36 rfl (by kernel_rfl)) rfl ⟨_, _, rfl, ?_, ?_⟩
      · have h2 : Own wr (w.heap.size + 1 + 1) wr.heap.size gtS (dn, ps, ()) [.slice b1 dm d1, .slice va k vc] := hOwnCons HO1.out (hOwnCons (Own.mono HO2.out (by omega) (Nat.le_refl _)) (hOwnNil _ _ _) (by omega) (Nat.le_refl _)) (by omega) (by omega)
        refine Own.mono (Own.keep h2 fun b hb hlt => ?_) (by omega) (by simp)
        repeat rw [Below.heap_setCell _ _ _ _ (by dsimp only; omega)]
      · exact Below.setCell (Below.setCell HB.out (by dsimp only; omega) _) (by dsimp only; omega) _
theorem ob_made9 (w : World) (base : Nat) (hb : base ≤ w.heap.size) : OB (w.alloc (.cells #[] 5)) base (.slice (some ⟨w.heap.size, 0, none⟩) 0 0) [] := ⟨World.ownsRow_made w #[] 0 hb (by decide) rfl, by simp⟩
set_option maxHeartbeats 8000000 in
theorem sL3Copy (g : Gt) (v1 v2 : Value) (w : World) (B : Nat) (hr : gtS.Rd w B g [v1, v2]) (hB : B ≤ w.heap.size) (hT : gtTot g ≤ 1048576) (hL : g.2.1.length ≤ 1000) :
    Calls Tryz.prog 162 #[.agg #[v1, v2]] w fun e w' => ∃ u1 u2, e = .returned (.agg #[u1, u2]) ∧ Own w' w.heap.size w'.heap.size gtS g [u1, u2] ∧ Below w.heap.size w w' := by
  obtain ⟨a1, c1, a2, c2, ev, r1, r2⟩ := rd_gt hr
  simp only [List.cons.injEq, and_true] at ev
  obtain ⟨rfl, rfl⟩ := ev
  obtain ⟨dn, ps, ⟨⟩⟩ := g
  have hT2 : dn.length + pcsTot ps ≤ 1048576 := hT
  have hL2 : ps.length ≤ 1000 := hL
  have hdn : dn.length ≤ 1048576 := by omega
  obtain ⟨sa1, sc1, es1, rb1, hnil1, -⟩ := rd_bytes r1
  simp only [List.cons.injEq, Value.slice.injEq, and_true, true_and] at es1
  obtain ⟨rfl, rfl⟩ := es1
  have HRB1 : Hid (∀ W, Below w.heap.size w W → RB W a1 dn) := fun W hW => rb1.below (Nat.le_refl _) hW
  have HNI1 : Hid _ := hnil1
  have HPT : Hid (∀ k (hk : k < ps.length), ps[k].2.1.length ≤ 1048576) := fun k hk => by have h := pcs_at_tot hk; omega
  obtain ⟨n, hn⟩ : ∃ n, ps.length = n := ⟨_, rfl⟩
  have HN : Hid (ps.length = n) := hn
  have HRd : Hid (∀ W, Below w.heap.size w W → pcsS.Rd W B ps [.slice a2 n c2]) := fun W hW => by have h := Sh.Rd.below r2 hB hW; rw [← hn]; exact h
  show Calls _ _ #[.agg #[.slice a1 dn.length c1, .slice a2 ps.length c2]] _ fun e w' => ∃ u1 u2, e = .returned (.agg #[u1, u2]) ∧ Own w' w.heap.size w'.heap.size gtS (dn, ps, ()) [u1, u2] ∧ _
  rw [hn] at hL2 ⊢
  clear hr r1 r2 rb1 hnil1 hT hT2 hL hn
  obtain ⟨dm, hdm⟩ : ∃ m, dn.length = m := ⟨_, rfl⟩
  have HDM : Hid (dn.length = dm) := hdm
  rw [hdm] at hdn ⊢
  clear hdm
  go_enter Tryz.func162, Tryz.ntmps162
  go_upto_region 1 with fail
  have k0 : ∀ o, ((w.alloc (.cells #[.slice a1 dm c1, .slice a2 n c2] 36)).alloc (.cells #[.slice none 0 0, .slice none 0 0] 36)).cell? ⟨w.heap.size, o, none⟩ = (#[.slice a1 dm c1, .slice a2 n c2] : Array Value)[o]? := fun o => by simp [go_sem]
  have kR : ∀ o, ((w.alloc (.cells #[.slice a1 dm c1, .slice a2 n c2] 36)).alloc (.cells #[.slice none 0 0, .slice none 0 0] 36)).cell? ⟨w.heap.size + 1, o, none⟩ = (#[.slice none 0 0, .slice none 0 0] : Array Value)[o]? := fun o => by simp [go_sem]
  have fR : ∀ o, ((w.alloc (.cells #[.slice a1 dm c1, .slice a2 n c2] 36)).alloc (.cells #[.slice none 0 0, .slice none 0 0] 36)).frozen? ⟨w.heap.size + 1, o, none⟩ = false := fun o => by simp [go_sem]
  have HB : Hid (Below w.heap.size w ((w.alloc (.cells #[.slice a1 dm c1, .slice a2 n c2] 36)).alloc (.cells #[.slice none 0 0, .slice none 0 0] 36))) := ((Below.refl _ _).alloc (Nat.le_refl _) _).alloc (by simp) _
  have zA : w.heap.size + 1 < ((w.alloc (.cells #[.slice a1 dm c1, .slice a2 n c2] 36)).alloc (.cells #[.slice none 0 0, .slice none 0 0] 36)).heap.size := by simp
  generalize hWA : (w.alloc (.cells #[.slice a1 dm c1, .slice a2 n c2] 36)).alloc (.cells #[.slice none 0 0, .slice none 0 0] 36) = WA at k0 kR fR HB zA ⊢
  clear hWA
  have kA : ∀ o, (WA.alloc (.cells #[] 5)).cell? ⟨w.heap.size, o, none⟩ = (#[.slice a1 dm c1, .slice a2 n c2] : Array Value)[o]? := bx_below k0 (by omega) ((Below.refl _ _).alloc (Nat.le_refl _) _)
  go_upto_region 2 with (at_builtin; refine app_pl (WA.alloc (.cells #[] 5)) rfl _ _ 22 22 rfl Tryz.underlying22 Tryz.underlying22 WA.heap.size (.slice (some ⟨WA.heap.size, 0, none⟩) 0 0) [] (by rfl) (ob_made9 WA WA.heap.size (Nat.le_refl _)) a1 dn dm c1 HDM.out (by rfl) (HRB1.out _ (HB.out.alloc HB.out.size _)) HNI1.out (by simp; omega) (by simp) ?_; intro v1 w1 ho1 hb1 hg1 hat1; obtain ⟨b1, d1, hv1, -, -⟩ := ho1.rbn; rw [List.nil_append, HDM.out] at hv1; subst hv1; have hbq : Below WA.heap.size WA w1 := (show Below WA.heap.size WA (WA.alloc (.cells #[] 5)) from (Below.refl _ _).alloc (Nat.le_refl _) _).trans hb1; have HO1 : Hid (Own w1 WA.heap.size w1.heap.size u8s dn [.slice b1 dm d1]) := (by have h := own_bytes ho1 (Nat.le_refl _); rw [List.nil_append] at h; exact h); replace k0 := bx_below k0 (by omega) hbq; replace kR := bx_below kR zA hbq; replace fR := bxF fR hbq zA; replace HB : Hid (Below w.heap.size w w1) := HB.out.trans (hbq.mono HB.out.size); have zA1 : WA.heap.size ≤ w1.heap.size := hbq.size; clear ho1 hb1 hg1 hat1 hbq kA)
  have kQ : ∀ o, (w1.alloc (.cells #[.slice b1 dm d1, .slice none 0 0] 36)).cell? ⟨w1.heap.size, o, none⟩ = (#[.slice b1 dm d1, .slice none 0 0] : Array Value)[o]? := bx_al w1 _ _
  have fQ : ∀ o, (w1.alloc (.cells #[.slice b1 dm d1, .slice none 0 0] 36)).frozen? ⟨w1.heap.size, o, none⟩ = false := fx_al w1 _ _
  have hb2 : Below w1.heap.size w1 (w1.alloc (.cells #[.slice b1 dm d1, .slice none 0 0] 36)) := (Below.refl _ _).alloc (Nat.le_refl _) _
  have zQ : w1.heap.size < (w1.alloc (.cells #[.slice b1 dm d1, .slice none 0 0] 36)).heap.size := by simp
  generalize hW2 : w1.alloc (.cells #[.slice b1 dm d1, .slice none 0 0] 36) = W2 at kQ fQ hb2 zQ ⊢
  clear hW2
  replace k0 := bx_below k0 (by omega) hb2
  replace kR := bx_below kR (by omega) hb2
  replace fR := bxF fR hb2 (by omega)
  replace HO1 : Hid (Own W2 (w.heap.size + 1 + 1) w1.heap.size u8s dn [.slice b1 dm d1]) := Own.mono (HO1.out.below (Nat.le_refl _) hb2) (by omega) (Nat.le_refl _)
  replace HB : Hid (Below w.heap.size w W2) := HB.out.trans (hb2.mono HB.out.size)
  have z0 : w.heap.size + 1 < w1.heap.size := by omega
  obtain ⟨q, hq⟩ : ∃ q, q = w1.heap.size := ⟨_, rfl⟩
  rw [← hq] at z0 kQ fQ zQ HO1 ⊢
  clear hb2 hq zA zA1 HRB1 HNI1
  go_upto_region 3 with fail
  go_loopw [4] (fun i wr => ∃ (k : Nat) (va : Option Addr) (vc : Nat), k ≤ n ∧ i = .int .i64 k ∧ (∀ o, wr.cell? ⟨w.heap.size, o, none⟩ = (#[.slice a1 dm c1, .slice a2 n c2] : Array Value)[o]?) ∧ (∀ o, wr.cell? ⟨w.heap.size + 1, o, none⟩ = (#[.slice none 0 0, .slice none 0 0] : Array Value)[o]?) ∧ (∀ o, wr.frozen? ⟨w.heap.size + 1, o, none⟩ = false) ∧ (∀ o, wr.cell? ⟨q, o, none⟩ = (#[.slice b1 dm d1, .slice va k vc] : Array Value)[o]?) ∧ (∀ o, wr.frozen? ⟨q, o, none⟩ = false) ∧ Hid (Own wr (q + 1) wr.heap.size pcsS (ps.take k) [.slice va k vc]) ∧ Hid (Own wr (w.heap.size + 1 + 1) q u8s dn [.slice b1 dm d1]) ∧ Hid (Below w.heap.size w wr) ∧ q < wr.heap.size) (fun i _ => n - (intOf i).toNat)
  case atStart => exact ⟨0, none, 0, Nat.zero_le _, rfl, k0, kR, fR, kQ, fQ, own_pcs0 _ _ _, HO1, HB, zQ⟩
  case round =>
    clear k0 kR fR kQ fQ HO1 HB zQ
    obtain ⟨k, va, vc, hk, rfl, k0, kR, fR, kQ, fQ, HO, HO1, HB, zQ⟩ := hrel
    by_cases hlt : k < n
    · have hkl : k < ps.length := by have := HN.out; omega
      obtain ⟨pa, pcap, eP, -, -, hat⟩ := rd_pcs (HRd.out wr HB.out)
      obtain ⟨b, off, sa, sc, ha, hb, q0, q1, r3, hwf⟩ := hat k hkl
      have hap : a2 = pa := by have e := eP; rw [HN.out] at e; simp only [List.cons.injEq, Value.slice.injEq, and_true, true_and] at e; exact e.1
      subst hap
      subst ha
      clear eP hat
      obtain ⟨sa', sc', es, rb, hnil, -⟩ := rd_bytes r3
      simp only [List.cons.injEq, Value.slice.injEq, and_true, true_and] at es
      obtain ⟨rfl, rfl⟩ := es
      have hnn := HPT.out k hkl
      have HTK : Hid (ps.take (k + 1) = ps.take k ++ [(ps[k].1, ps[k].2.1, ())]) := List.take_succ_eq_append_getElem hkl
      have HLL : Hid ((ps.take k).length = k) := by show _ = _; simp; omega
      have HWZ : Hid ((Lit.int .i64 ps[k].1).wf = true) := wf_i64' hwf
      have hbw : b < w.heap.size := by omega
      have hszw := HB.out.size
      have HRB : Hid (∀ W, Below wr.heap.size wr W → RB W sa ps[k].2.1) := fun W hW => rb.below (Nat.le_refl _) hW
      have HNI : Hid _ := hnil
      clear r3 rb hnil hwf
      generalize ps[k].1 = zz at *
      generalize ps[k].2.1 = d at *
      obtain ⟨m, hm⟩ : ∃ m, d.length = m := ⟨_, rfl⟩
      have HM : Hid (d.length = m) := hm
      rw [hm] at q1 hnn
      clear hm
      have hk0 : (0 : Int) ≤ (k : Int) := by omega
      have hkn : (k : Int) < (n : Int) := by omega
      have HPC : Hid (∀ W, Below w.heap.size wr W → W.cell? ⟨b, off + k * 2, none⟩ = some (.int .i64 zz) ∧ W.cell? ⟨b, off + k * 2 + 1, none⟩ = some (.slice sa m sc)) := fun W hW => ⟨(hW.cell (p := ⟨b, off + k * 2, none⟩) hbw).trans q0, (hW.cell (p := ⟨b, off + k * 2 + 1, none⟩) hbw).trans q1⟩
      obtain ⟨mm, hmm⟩ : ∃ mm, w.heap.size + mm = q + 1 := ⟨q + 1 - w.heap.size, by omega⟩
      clear q0 q1
      go_upto_region 5 with fail
      have HS : Hid ((Below w.heap.size wr wr.drew ∧ wr.heap.size ≤ wr.drew.heap.size) ∧ (∀ o, wr.drew.cell? ⟨q, o, none⟩ = (#[.slice b1 dm d1, .slice va k vc] : Array Value)[o]?) ∧ (∀ o, wr.drew.cell? ⟨w.heap.size, o, none⟩ = (#[.slice a1 dm c1, .slice (some ⟨b, off, none⟩) n c2] : Array Value)[o]?)) := ⟨⟨(Below.refl _ _).drew, Nat.le_refl _⟩, kQ, k0⟩
      refine wp_region_noPanic ?_
      refine Goes.start (S := fun w' => (Below w.heap.size wr w' ∧ wr.heap.size ≤ w'.heap.size) ∧ (∀ o, w'.cell? ⟨q, o, none⟩ = (#[.slice b1 dm d1, .slice va k vc] : Array Value)[o]?) ∧ (∀ o, w'.cell? ⟨w.heap.size, o, none⟩ = (#[.slice a1 dm c1, .slice (some ⟨b, off, none⟩) n c2] : Array Value)[o]?)) (z := 20) (by kernel_rfl) ?_
      replace kR : ∀ o, wr.drew.cell? ⟨w.heap.size + 1, o, none⟩ = (#[.slice none 0 0, .slice none 0 0] : Array Value)[o]? := kR
      replace fR : ∀ o, wr.drew.frozen? ⟨w.heap.size + 1, o, none⟩ = false := fR
      replace fQ : ∀ o, wr.drew.frozen? ⟨q, o, none⟩ = false := fQ
      have HOD : Hid (Own wr.drew (q + 1) wr.heap.size pcsS (ps.take k) [.slice va k vc]) := HO.out.below (Nat.le_refl _) (Below.refl _ _).drew
      replace HO1 : Hid (Own wr.drew (w.heap.size + 1 + 1) q u8s dn [.slice b1 dm d1]) := HO1.out.below (Nat.le_of_lt zQ) (Below.refl _ _).drew
      have HBD : Hid (Below w.heap.size w wr.drew) := HB.out.drew
      have hbd : Below wr.heap.size wr wr.drew := (Below.refl _ _).drew
      have hzd : wr.heap.size ≤ wr.drew.heap.size := Nat.le_refl _
      generalize hD : wr.drew = V at HS kR fR fQ HOD HO1 HBD hbd hzd ⊢
      clear hD kQ k0 HO
      refine Goes.take (i := 0) (oi := ?oi11) (x := ?vx11) ?ho11 (by kernel_rfl) (by kernel_rfl) (by kernel_rfl) (by kernel_rfl) (fun _ _ _ h => h) (Or.inl ⟨?hw11, ?hy11⟩) HS.out ?rest11
      case ho11 => (simp only [List.getElem?_toArray, List.getElem?_cons_zero]; rfl)
      case hw11 => rfl
      case hy11 => (intro w' hSw; have j0 := hSw.2.1; have j1 := hSw.2.2; obtain ⟨j2, j3⟩ := HPC.out _ hSw.1.1; go_simp; (try with_reducible rfl))
      case rest11 =>
      (try simp only [Act.put, List.setIfInBounds_toArray, List.set_cons_zero, List.set_cons_succ])
      refine Goes.take (i := 1) (oi := ?oi12) (x := ?vx12) ?ho12 (by kernel_rfl) (by kernel_rfl) (by kernel_rfl) (by kernel_rfl) (fun _ _ _ h => h) (Or.inl ⟨?hw12, ?hy12⟩) HS.out ?rest12
      case ho12 => (simp only [List.getElem?_toArray, List.getElem?_cons_succ, List.getElem?_cons_zero]; rfl)
      case hw12 => rfl
      case hy12 => (intro w' hSw; have j0 := hSw.2.1; have j1 := hSw.2.2; obtain ⟨j2, j3⟩ := HPC.out _ hSw.1.1; go_simp; (try with_reducible rfl))
      case rest12 =>
      (try simp only [Act.put, List.setIfInBounds_toArray, List.set_cons_zero, List.set_cons_succ])
      refine Goes.take (i := 2) (oi := ?oi13) (x := ?vx13) ?ho13 (by kernel_rfl) (by kernel_rfl) (by kernel_rfl) (by kernel_rfl) (fun _ _ _ h => h) (Or.inl ⟨?hw13, ?hy13⟩) HS.out ?rest13
      case ho13 => (simp only [List.getElem?_toArray, List.getElem?_cons_succ, List.getElem?_cons_zero]; rfl)
      case hw13 => rfl
      case hy13 => (intro w' hSw; have j0 := hSw.2.1; have j1 := hSw.2.2; obtain ⟨j2, j3⟩ := HPC.out _ hSw.1.1; go_simp; (try with_reducible rfl))
      case rest13 =>
      (try simp only [Act.put, List.setIfInBounds_toArray, List.set_cons_zero, List.set_cons_succ])
      refine Goes.take (i := 3) (oi := ?oi14) (x := ?vx14) ?ho14 (by kernel_rfl) (by kernel_rfl) (by kernel_rfl) (by kernel_rfl) (fun _ _ _ h => h) (Or.inl ⟨?hw14, ?hy14⟩) HS.out ?rest14
      case ho14 => (simp only [List.getElem?_toArray, List.getElem?_cons_succ, List.getElem?_cons_zero]; rfl)
      case hw14 => rfl
      case hy14 => (intro w' hSw; have j0 := hSw.2.1; have j1 := hSw.2.2; obtain ⟨j2, j3⟩ := HPC.out _ hSw.1.1; go_simp; (try with_reducible rfl))
      case rest14 =>
      (try simp only [Act.put, List.setIfInBounds_toArray, List.set_cons_zero, List.set_cons_succ])
      refine Goes.take (i := 4) (oi := ?oi15) (x := ?vx15) ?ho15 (by kernel_rfl) (by kernel_rfl) (by kernel_rfl) (by kernel_rfl) (fun _ _ _ h => h) (Or.inl ⟨?hw15, ?hy15⟩) HS.out ?rest15
      case ho15 => (simp only [List.getElem?_toArray, List.getElem?_cons_succ, List.getElem?_cons_zero]; rfl)
      case hw15 => rfl
      case hy15 => (intro w' hSw; have j0 := hSw.2.1; have j1 := hSw.2.2; obtain ⟨j2, j3⟩ := HPC.out _ hSw.1.1; go_simp; (try with_reducible rfl))
      case rest15 =>
      (try simp only [Act.put, List.setIfInBounds_toArray, List.set_cons_zero, List.set_cons_succ])
      refine Goes.take (i := 5) (oi := ?oi16) (x := ?vx16) ?ho16 (by kernel_rfl) (by kernel_rfl) (by kernel_rfl) (by kernel_rfl) (fun _ _ _ h => h) (Or.inl ⟨?hw16, ?hy16⟩) HS.out ?rest16
      case ho16 => (simp only [List.getElem?_toArray, List.getElem?_cons_succ, List.getElem?_cons_zero]; rfl)
      case hw16 => rfl
      case hy16 => (intro w' hSw; have j0 := hSw.2.1; have j1 := hSw.2.2; obtain ⟨j2, j3⟩ := HPC.out _ hSw.1.1; go_simp; (try with_reducible rfl))
      case rest16 =>
      (try simp only [Act.put, List.setIfInBounds_toArray, List.set_cons_zero, List.set_cons_succ])
      refine Goes.take (i := 6) (oi := ?oi17) (x := ?vx17) ?ho17 (by kernel_rfl) (by kernel_rfl) (by kernel_rfl) (by kernel_rfl) (fun _ _ _ h => h) (Or.inl ⟨?hw17, ?hy17⟩) HS.out ?rest17
      case ho17 => (simp only [List.getElem?_toArray, List.getElem?_cons_succ, List.getElem?_cons_zero]; rfl)
      case hw17 => rfl
      case hy17 => (intro w' hSw; have j0 := hSw.2.1; have j1 := hSw.2.2; obtain ⟨j2, j3⟩ := HPC.out _ hSw.1.1; go_simp; (try with_reducible rfl))
      case rest17 =>
      (try simp only [Act.put, List.setIfInBounds_toArray, List.set_cons_zero, List.set_cons_succ])
      refine Goes.take (i := 7) (oi := ?oi18) (x := ?vx18) ?ho18 (by kernel_rfl) (by kernel_rfl) (by kernel_rfl) (by kernel_rfl) (fun _ _ _ h => h) (Or.inl ⟨?hw18, ?hy18⟩) HS.out ?rest18
      case ho18 => (simp only [List.getElem?_toArray, List.getElem?_cons_succ, List.getElem?_cons_zero]; rfl)
      case hw18 => rfl
      case hy18 => (intro w' hSw; have j0 := hSw.2.1; have j1 := hSw.2.2; obtain ⟨j2, j3⟩ := HPC.out _ hSw.1.1; go_simp; (try with_reducible rfl))
      case rest18 =>
      (try simp only [Act.put, List.setIfInBounds_toArray, List.set_cons_zero, List.set_cons_succ])
      refine Goes.take (i := 9) (oi := ?oi19) (x := ?vx19) ?ho19 (by kernel_rfl) (by kernel_rfl) (by kernel_rfl) (by kernel_rfl) (fun _ _ _ h => h) (Or.inl ⟨?hw19, ?hy19⟩) HS.out ?rest19
      case ho19 => (simp only [List.getElem?_toArray, List.getElem?_cons_succ, List.getElem?_cons_zero]; rfl)
      case hw19 => rfl
      case hy19 => (intro w' hSw; have j0 := hSw.2.1; have j1 := hSw.2.2; obtain ⟨j2, j3⟩ := HPC.out _ hSw.1.1; go_simp; (try with_reducible rfl))
      case rest19 =>
      (try simp only [Act.put, List.setIfInBounds_toArray, List.set_cons_zero, List.set_cons_succ])
      refine Goes.take (i := 10) (oi := ?oi20) (x := ?vx20) ?ho20 (by kernel_rfl) (by kernel_rfl) (by kernel_rfl) (by kernel_rfl) (fun _ _ _ h => h) (Or.inl ⟨?hw20, ?hy20⟩) HS.out ?rest20
      case ho20 => (simp only [List.getElem?_toArray, List.getElem?_cons_succ, List.getElem?_cons_zero]; rfl)
      case hw20 => rfl
      case hy20 => (intro w' hSw; have j0 := hSw.2.1; have j1 := hSw.2.2; obtain ⟨j2, j3⟩ := HPC.out _ hSw.1.1; go_simp; (try with_reducible rfl))
      case rest20 =>
      (try simp only [Act.put, List.setIfInBounds_toArray, List.set_cons_zero, List.set_cons_succ])
      refine Goes.take (i := 11) (oi := ?oi21) (x := ?vx21) ?ho21 (by kernel_rfl) (by kernel_rfl) (by kernel_rfl) (by kernel_rfl) (fun _ _ _ h => h) (Or.inl ⟨?hw21, ?hy21⟩) HS.out ?rest21
      case ho21 => (simp only [List.getElem?_toArray, List.getElem?_cons_succ, List.getElem?_cons_zero]; rfl)
      case hw21 => rfl
      case hy21 => (intro w' hSw; have j0 := hSw.2.1; have j1 := hSw.2.2; obtain ⟨j2, j3⟩ := HPC.out _ hSw.1.1; go_simp; (try with_reducible rfl))
      case rest21 =>
      (try simp only [Act.put, List.setIfInBounds_toArray, List.set_cons_zero, List.set_cons_succ])
      refine Goes.take (i := 12) (oi := ?oi22) (x := ?vx22) ?ho22 (by kernel_rfl) (by kernel_rfl) (by kernel_rfl) (by kernel_rfl) (fun _ _ _ h => h) (Or.inl ⟨?hw22, ?hy22⟩) HS.out ?rest22
      case ho22 => (simp only [List.getElem?_toArray, List.getElem?_cons_succ, List.getElem?_cons_zero]; rfl)
      case hw22 => rfl
      case hy22 => (intro w' hSw; have j0 := hSw.2.1; have j1 := hSw.2.2; obtain ⟨j2, j3⟩ := HPC.out _ hSw.1.1; go_simp; (try with_reducible rfl))
      case rest22 =>
      (try simp only [Act.put, List.setIfInBounds_toArray, List.set_cons_zero, List.set_cons_succ])
      refine Goes.take (i := 13) (oi := ?oi23) (x := ?vx23) ?ho23 (by kernel_rfl) (by kernel_rfl) (by kernel_rfl) (by kernel_rfl) (fun _ _ _ h => h) (Or.inl ⟨?hw23, ?hy23⟩) HS.out ?rest23
      case ho23 => (simp only [List.getElem?_toArray, List.getElem?_cons_succ, List.getElem?_cons_zero]; rfl)
      case hw23 => rfl
      case hy23 => (intro w' hSw; have j0 := hSw.2.1; have j1 := hSw.2.2; obtain ⟨j2, j3⟩ := HPC.out _ hSw.1.1; go_simp; (try with_reducible rfl))
      case rest23 =>
      (try simp only [Act.put, List.setIfInBounds_toArray, List.set_cons_zero, List.set_cons_succ])
      refine Goes.take (i := 14) (oi := ?oi24) (x := ?vx24) ?ho24 (by kernel_rfl) (by kernel_rfl) (by kernel_rfl) (by kernel_rfl) (fun _ _ _ h => h) (Or.inl ⟨?hw24, ?hy24⟩) HS.out ?rest24
      case ho24 => (simp only [List.getElem?_toArray, List.getElem?_cons_succ, List.getElem?_cons_zero]; rfl)
      case hw24 => rfl
      case hy24 => (intro w' hSw; have j0 := hSw.2.1; have j1 := hSw.2.2; obtain ⟨j2, j3⟩ := HPC.out _ hSw.1.1; go_simp; (try with_reducible rfl))
      case rest24 =>
      (try simp only [Act.put, List.setIfInBounds_toArray, List.set_cons_zero, List.set_cons_succ])
      refine Goes.all (rs := [8]) (by kernel_rfl) (by simp) ?_
      refine Ups.cons (i := 8) (o := ?oo25) ?ho25 (fun KK hKK => ?stp25) Ups.nil
      case ho25 => (simp only [List.getElem?_toArray, List.getElem?_cons_succ, List.getElem?_cons_zero]; rfl)
      case stp25 =>
      go_simp
      have hb8 : Below V.heap.size V (V.alloc (.cells #[] 5)) := (Below.refl _ _).alloc (Nat.le_refl _) _
      have HS8 : Hid ((Below w.heap.size wr (V.alloc (.cells #[] 5)) ∧ wr.heap.size ≤ (V.alloc (.cells #[] 5)).heap.size) ∧ (∀ o, (V.alloc (.cells #[] 5)).cell? ⟨q, o, none⟩ = (#[.slice b1 dm d1, .slice va k vc] : Array Value)[o]?) ∧ (∀ o, (V.alloc (.cells #[] 5)).cell? ⟨w.heap.size, o, none⟩ = (#[.slice a1 dm c1, .slice (some ⟨b, off, none⟩) n c2] : Array Value)[o]?)) := ⟨⟨HS.out.1.1.trans (hb8.mono (by omega)), Nat.le_trans hzd hb8.size⟩, bx_below HS.out.2.1 (by omega) hb8, bx_below HS.out.2.2 (by omega) hb8⟩
      refine hKK.out _ _ (Or.inr HS8.out) ?_
      clear hKK KK
      (try simp only [Act.put, List.setIfInBounds_toArray, List.set_cons_zero, List.set_cons_succ])
      refine Goes.all (rs := [15]) (by kernel_rfl) (by simp) ?_
      refine Ups.cons (i := 15) (o := ?oo26) ?ho26 (fun KK hKK => ?stp26) Ups.nil
      case ho26 => (simp only [List.getElem?_toArray, List.getElem?_cons_succ, List.getElem?_cons_zero]; rfl)
      case stp26 =>
      refine app_st (V.alloc (.cells #[] 5)) (by rfl) _ _ 22 22 (by rfl) Tryz.underlying22 Tryz.underlying22 V.heap.size (.slice (some ⟨V.heap.size, 0, none⟩) 0 0) [] (by rfl) (ob_made9 V V.heap.size (Nat.le_refl _)) sa d m sc HM.out (by rfl) (HRB.out _ (hbd.trans (hb8.mono hzd))) HNI.out (by simp; omega) (by simp) ?_
      intro v2 w2 ho2 hb2 hg2 hat2
      obtain ⟨b2, d2, hv2, -, -⟩ := ho2.rbn
      rw [List.nil_append, HM.out] at hv2
      subst hv2
      have hbq : Below V.heap.size V w2 := hb8.trans hb2
      have HS6 : Hid ((Below w.heap.size wr w2 ∧ wr.heap.size ≤ w2.heap.size) ∧ (∀ o, w2.cell? ⟨q, o, none⟩ = (#[.slice b1 dm d1, .slice va k vc] : Array Value)[o]?) ∧ (∀ o, w2.cell? ⟨w.heap.size, o, none⟩ = (#[.slice a1 dm c1, .slice (some ⟨b, off, none⟩) n c2] : Array Value)[o]?)) := ⟨⟨HS.out.1.1.trans (hbq.mono (by omega)), Nat.le_trans hzd hbq.size⟩, bx_below HS.out.2.1 (by omega) hbq, bx_below HS.out.2.2 (by omega) hbq⟩
      have ho2' := own_bytes ho2 (Nat.le_refl _)
      rw [List.nil_append] at ho2'
      have HE1 : Hid (Own w2 V.heap.size w2.heap.size pcS (zz, d, ()) [.int .i64 zz, .slice b2 m d2]) := hOwnCons (hOwnInt w2 V.heap.size V.heap.size HWZ.out) (hOwnCons ho2' (hOwnNil _ _ _) hbq.size (Nat.le_refl _)) (Nat.le_refl _) hbq.size
      have HOW : Hid (Own w2 (q + 1) wr.heap.size pcsS (ps.take k) [.slice va k vc]) := HOD.out.below hzd hbq
      replace HO1 : Hid (Own w2 (w.heap.size + 1 + 1) q u8s dn [.slice b1 dm d1]) := HO1.out.below (by omega) hbq
      replace kR := bx_below kR (by omega) hbq
      replace fR := bxF fR hbq (by omega)
      replace fQ := bxF fQ hbq (by omega)
      have hz2 := hbq.size
      have HB2 : Hid (Below w.heap.size w w2) := HBD.out.trans (hbq.mono (by omega))
      clear ho2 ho2' hbq hb2 hg2 hat2 HOD
      refine hKK.out _ _ (Or.inr HS6.out) ?_
      clear hKK KK
      (try simp only [Act.put, List.setIfInBounds_toArray, List.set_cons_zero, List.set_cons_succ])
      refine Goes.take (i := 16) (oi := ?oi27) (x := ?vx27) ?ho27 (by kernel_rfl) (by kernel_rfl) (by kernel_rfl) (by kernel_rfl) (fun _ _ _ h => h) (Or.inl ⟨?hw27, ?hy27⟩) HS6.out ?rest27
      case ho27 => (simp only [List.getElem?_toArray, List.getElem?_cons_succ, List.getElem?_cons_zero]; rfl)
      case hw27 => rfl
      case hy27 => (intro w' hSw; have j0 := hSw.2.1; have j1 := hSw.2.2; obtain ⟨j2, j3⟩ := HPC.out _ hSw.1.1; go_simp; (try with_reducible rfl))
      case rest27 =>
      (try simp only [Act.put, List.setIfInBounds_toArray, List.set_cons_zero, List.set_cons_succ])
      refine Goes.all (rs := [17]) (by kernel_rfl) (by simp) ?_
      refine Ups.cons (i := 17) (o := ?oo28) ?ho28 (fun KK hKK => ?stp28) Ups.nil
      case ho28 => (simp only [List.getElem?_toArray, List.getElem?_cons_succ, List.getElem?_cons_zero]; rfl)
      case stp28 =>
      go_simp
      have hb7 : Below w2.heap.size w2 (w2.alloc (.cells #[.int .i64 zz, .slice b2 m d2] 189)) := (Below.refl _ _).alloc (Nat.le_refl _) _
      refine hKK.out _ _ (Or.inr ⟨⟨HS6.out.1.1.trans (hb7.mono (by omega)), Nat.le_trans HS6.out.1.2 hb7.size⟩, bx_below HS6.out.2.1 (by omega) hb7, bx_below HS6.out.2.2 (by omega) hb7⟩) ?_
      clear hKK KK
      (try simp only [Act.put, List.setIfInBounds_toArray, List.set_cons_zero, List.set_cons_succ])
      refine Goes.all (rs := [18]) (by kernel_rfl) (by simp) ?_
      refine Ups.cons (i := 18) (o := ?oo29) ?ho29 (fun KK hKK => ?stp29) Ups.nil
      case ho29 => (simp only [List.getElem?_toArray, List.getElem?_cons_succ, List.getElem?_cons_zero]; rfl)
      case stp29 =>
      refine app_elem_st w2 (by rfl) _ _ 34 189 (by rfl) pcS (.agg #[.int .i64 0, .slice none 0 0]) 32 Tryz.underlying34 info_pc9 rfl (by decide) (by decide) (q + 1) wr.heap.size V.heap.size w2.heap.size (ps.take k) (.slice va k vc) (by rfl) w2.heap.size rfl (by rfl) HOW.out (zz, d, ()) [.int .i64 zz, .slice b2 m d2] HE1.out (by omega) hzd (Nat.le_refl _) (by have := HLL.out; omega) (by omega) ?_
      intro v3 w3 ho3 hb3 hk3 hs3
      obtain ⟨va3, vc3, hv3⟩ := row_form (ho3.rd (Nat.le_refl _))
      simp only [List.cons.injEq, and_true, List.length_append, List.length_cons, List.length_nil, HLL.out] at hv3
      subst hv3
      have HO3 : Hid (Own w3 (q + 1) w3.heap.size pcsS (ps.take (k + 1)) [.slice va3 (k + 1) vc3]) := by rw [HTK.out]; exact ho3
      have k0 : ∀ o, w3.cell? ⟨w.heap.size, o, none⟩ = (#[.slice a1 dm c1, .slice (some ⟨b, off, none⟩) n c2] : Array Value)[o]? := bxC HS6.out.2.2 hb3 (show w.heap.size < q + 1 by omega)
      have kQ : ∀ o, w3.cell? ⟨q, o, none⟩ = (#[.slice b1 dm d1, .slice va k vc] : Array Value)[o]? := bxC HS6.out.2.1 hb3 (show q < q + 1 by omega)
      have HS9 : Hid ((Below w.heap.size wr w3 ∧ wr.heap.size ≤ w3.heap.size) ∧ (∀ o, w3.cell? ⟨q, o, none⟩ = (#[.slice b1 dm d1, .slice va k vc] : Array Value)[o]?) ∧ (∀ o, w3.cell? ⟨w.heap.size, o, none⟩ = (#[.slice a1 dm c1, .slice (some ⟨b, off, none⟩) n c2] : Array Value)[o]?)) := ⟨⟨HS6.out.1.1.trans (hb3.mono (by omega)), Nat.le_trans HS6.out.1.2 (Nat.le_of_lt hs3)⟩, kQ, k0⟩
      replace HO1 : Hid (Own w3 (w.heap.size + 1 + 1) q u8s dn [.slice b1 dm d1]) := HO1.out.below (show q ≤ q + 1 by omega) hb3
      replace kR := bxC kR hb3 (show w.heap.size + 1 < q + 1 by omega)
      replace fR := fxC fR hb3 (show w.heap.size + 1 < q + 1 by omega)
      replace fQ := fxC fQ hb3 (show q < q + 1 by omega)
      replace HB2 : Hid (Below w.heap.size w w3) := HB2.out.trans (hb3.mono (by omega))
      clear ho3 hb3 hk3 HOW HE1
      refine hKK.out _ _ (Or.inr HS9.out) ?_
      clear hKK KK
      (try simp only [Act.put, List.setIfInBounds_toArray, List.set_cons_zero, List.set_cons_succ])
      refine Goes.take (i := 19) (oi := ?oi30) (x := ?vx30) ?ho30 (by kernel_rfl) (by kernel_rfl) (by kernel_rfl) (by kernel_rfl) (fun _ _ _ h => h) (Or.inl ⟨?hw30, ?hy30⟩) HS9.out ?rest30
      case ho30 => (simp only [List.getElem?_toArray, List.getElem?_cons_succ, List.getElem?_cons_zero]; rfl)
      case hw30 => rfl
      case hy30 => (intro w' hSw; have j0 := hSw.2.1; have j1 := hSw.2.2; obtain ⟨j2, j3⟩ := HPC.out _ hSw.1.1; go_simp; (try with_reducible rfl))
      case rest30 =>
      (try simp only [Act.put, List.setIfInBounds_toArray, List.set_cons_zero, List.set_cons_succ])
      refine Goes.all (rs := [20]) (by kernel_rfl) (by simp) ?_
      refine Ups.cons (i := 20) (o := ?oo31) ?ho31 (fun KK hKK => ?stp31) Ups.nil
      case ho31 => (simp only [List.getElem?_toArray, List.getElem?_cons_succ, List.getElem?_cons_zero]; rfl)
      case stp31 =>
      go_simp
      refine hKK.out _ _ (Or.inl rfl) ?_
      clear hKK KK
      (try simp only [Act.put])
      refine Goes.done (by kernel_rfl) ?_ _
      refine NoPanic.normal ?_
      have hz3 := HS9.out.1.2
      go_wp2_with fail
      go_roundw
      case rel => exact ⟨k + 1, va3, vc3, by omega, by go_num, bx_setC k0 (show w.heap.size ≠ q by omega), bx_setC kR (show w.heap.size + 1 ≠ q by omega), fx_setC fR, bx_p1 kQ, fx_setC fQ, Own.mono (Own.keep HO3.out fun b h1 h2 => Below.heap_setCell _ _ _ _ (by dsimp only; omega)) (Nat.le_refl _) (by simp), Own.keep HO1.out (fun b h1 h2 => Below.heap_setCell _ _ _ _ (by dsimp only; omega)), Below.setCell (p := ⟨q, 1, none⟩) HB2.out (show w.heap.size ≤ q by omega) _, by simp; omega⟩
      case measure => simp [intOf]; omega
    · obtain rfl : k = n := by omega
      have HO2 : Hid (Own wr (q + 1) wr.heap.size pcsS ps [.slice va k vc]) := by have h := HO.out; rw [← HN.out, List.take_length] at h; rw [← HN.out]; exact h
      have hszw := HB.out.size
      go_wp2_with fail
      refine bodyPost_ret (results_box Tryz.results162 _ _ _ #[.slice b1 dm d1, .slice va k vc] _ (by rfl) (bx_pp kR) Tryz.underlying36 rfl (by kernel_rfl)) rfl ⟨_, _, rfl, ?_, ?_⟩
      · have h2 : Own wr (w.heap.size + 1 + 1) wr.heap.size gtS (dn, ps, ()) [.slice b1 dm d1, .slice va k vc] := hOwnCons HO1.out (hOwnCons (Own.mono HO2.out (by omega) (Nat.le_refl _)) (hOwnNil _ _ _) (by omega) (Nat.le_refl _)) (by omega) (by omega)
        refine Own.mono (Own.keep h2 fun b hb hlt => ?_) (by omega) (by simp)
        repeat rw [Below.heap_setCell _ _ _ _ (by dsimp only; omega)]
      · exact Below.setCell (Below.setCell HB.out (by dsimp only; omega) _) (by dsimp only; omega) _
end Go.Proofs.YtcbgedlckcjjnaaGreat
