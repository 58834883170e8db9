/- Flights that are right, in plain terms, and the program's wantFlights; nothing that was in memory turns; no condition. Written by mkaud4.py. -/
import Derived.Test.YtnfkjdcnngoeiabGreatRows
import Derived.Recover
import Derived.Deep.RegionHeld3
import Derived.Deep.DeepCutAuto
import Derived.Deep.MidRow
import Derived.Deep.QuietTactic
import Derived.BigQuiet
import Derived.Test.YtnfkjdcnngoeiabGreatK01
import Derived.Test.YtnfkjdcnngoeiabGreatK02
import Derived.Test.YtnfkjdcnngoeiabGreatK03
import Derived.Test.YtnfkjdcnngoeiabGreatK04
import Derived.Test.YtnfkjdcnngoeiabGreatK05
import Derived.Test.YtnfkjdcnngoeiabGreatK10
import Derived.Test.YtnfkjdcnngoeiabGreatK11
import Derived.Test.YtnfkjdcnngoeiabGreatK12
import Derived.Test.YtnfkjdcnngoeiabGreatK14
import Derived.Test.YtnfkjdcnngoeiabGreatK58
import Derived.Test.YtnfkjdcnngoeiabGreatK59
import Derived.Test.YtnfkjdcnngoeiabGreatK60
import Derived.Test.YtnfkjdcnngoeiabGreatK62
import Derived.Test.YtnfkjdcnngoeiabGreatK64
import Derived.Test.YtnfkjdcnngoeiabGreatK78
import Derived.Test.YtnfkjdcnngoeiabGreatK79
import Derived.Test.YtnfkjdcnngoeiabGreatK80
namespace Go.Proofs.YtnfkjdcnngoeiabGreat
open Go.RowKit
set_option linter.unusedVariables false
set_option maxRecDepth 8000

def flsD (x : DSub) : List DFlight := x.2.2.2.2.2.2.1.2.2.2.1
/-- The flights of a sub have the bytes of what was written. -/
def flOk (l : List Int) (x : DSub) : Bool := (flsD x).all fun f => stV l f.2.1 f.2.2.1
def fliV (c : DConn) : Bool := c.subs.all (flOk c.wrote)
theorem subs_all : ∀ (l pre : List DSub), subsFrom pre l = 0 → ∀ x ∈ l, subF x = 0
  | [], _, _, _, hx => by cases hx
  | y :: r, pre, h, x, hx => by
    unfold subsFrom at h
    split at h
    · rename_i h0; exact absurd h h0
    rename_i h0
    split at h
    · cases h
    split at h
    · cases h
    rcases List.mem_cons.1 hx with rfl | hx
    · simpa using h0
    · exact subs_all r _ h x hx
theorem conn_fls {c : DConn} (h : connF c = 0) {k : Nat} (hk : k < c.subs.length) {i : Nat} (hi : i < (flsD c.subs[k]).length) : 0 ≤ ((flsD c.subs[k])[i]'hi).2.1 ∧ ((flsD c.subs[k])[i]'hi).2.1 + (((flsD c.subs[k])[i]'hi).2.2.1.length : Int) ≤ 400 ∧ 0 < ((flsD c.subs[k])[i]'hi).2.2.1.length := by
  obtain ⟨-, -, -, -, -, -, -, -, hs, -, -⟩ := conn_ok h
  obtain ⟨-, hsn, -, -, -⟩ := sub_ok (subs_all _ _ hs _ (List.getElem_mem hk))
  obtain ⟨e', hf⟩ := fls_all _ _ _ (snd_fls hsn) _ (List.getElem_mem hi)
  obtain ⟨h1, -, -, h4, -⟩ := flF_parts hf
  obtain ⟨h5, h6⟩ := lodD_yes h4
  unfold plcD at h1
  simp only [Bool.and_eq_true, decide_eq_true_eq] at h1
  obtain ⟨h7, h8⟩ := inD_yes h1.1
  exact ⟨h7, h1.2, by omega⟩
theorem conn_snd {c : DConn} (h : connF c = 0) {k : Nat} (hk : k < c.subs.length) : c.subs.length ≤ 9223372036854775807 → (flsD c.subs[k]).length ≤ 12 := fun _ => by
  obtain ⟨-, -, -, -, -, -, -, -, hs, -, -⟩ := conn_ok h
  obtain ⟨-, hsn, -, -, -⟩ := sub_ok (subs_all _ _ hs _ (List.getElem_mem hk))
  exact (snd_ok hsn).2.2.2
theorem sub_fl {w : World} {B : Nat} {x : DSub} {X : Array Value} (h : shSub.Rd w B x X.toList) : ∃ fa fc, X[9]? = some (.slice fa (flsD x).length fc) ∧ shFlights.Rd w B (flsD x) [.slice fa (flsD x).length fc] := by
  obtain ⟨u, v, e, hs, -, -⟩ := rd_Sub h
  obtain ⟨u2, e2, r2, -⟩ := rd_Sender hs
  simp only [List.cons.injEq, and_true, true_and] at e2
  subst e2
  obtain ⟨ua, uc, e4⟩ := row_form r2
  simp only [List.cons.injEq, and_true] at e4
  subst e4
  exact ⟨ua, uc, (get_of e 9).trans rfl, r2⟩
theorem fl_ld {w : World} {B : Nat} {x : DFlight} {X : Array Value} (h : shFlight.Rd w B x X.toList) : ∃ la lc, X[1]? = some (.int .i64 x.2.1) ∧ X[2]? = some (.slice la x.2.2.1.length lc) ∧ u8s.Rd w B x.2.2.1 [.slice la x.2.2.1.length lc] := by
  obtain ⟨v, e, r, -⟩ := rd_Flight h
  obtain ⟨la, lc, e2⟩ := row_form r
  simp only [List.cons.injEq, and_true] at e2
  subst e2
  exact ⟨la, lc, (get_of e 1).trans rfl, (get_of e 2).trans rfl, r⟩
set_option maxHeartbeats 8000000 in
theorem iWantFlights (c o : DConn) (g : List Int) (e : Bool) (V : Array Value) (w : World) (B : Nat) (hv : ∃ C O gu gc, VwA w B c o g e V C O gu gc) (hB : B ≤ w.heap.size) :
    Calls Tryz.prog 38 #[.agg V] w fun r w' => r = wantE (fliV c) ∧ Below w.heap.size w w' := by
  obtain ⟨C, O, gu, gq, hv⟩ := hv
  obtain ⟨a5, q5, a9, q9, a10, q10, a13, q13, hC⟩ := cn_all hv.rc
  obtain ⟨b5, p5, b9, p9, b10, p10, b13, p13, hO⟩ := cn_all hv.ro
  have v5 : V[5]? = some (.slice a5 c.wrote.length q5) := (hv.mine (k := 5) (by omega)).trans (by rw [hC.eA]; rfl)
  have v13 : V[13]? = some (.slice a13 c.subs.length q13) := (hv.mine (k := 13) (by omega)).trans (by rw [hC.eA]; rfl)
  obtain ⟨-, cp1, cp2, -⟩ := rd_cap hC.wr
  have cp4 : q5 ≤ 9223372036854775807 := cp2
  have hms := row_max hC.subs
  have HSB : Hid (∀ W, Below w.heap.size w W → ∀ k (hk : k < c.subs.length), ∃ b off, ∃ X : Array Value, a13 = some ⟨b, off, none⟩ ∧ W.rangeAt b (off + k * 16) X.toList ∧ shSub.Rd W B c.subs[k] X.toList) := fun W hW k hk => by
    obtain ⟨b, off, cs, q1, q2, q3, q4, q5⟩ := row_at (Sh.Rd.below (s := shSubs) hC.subs hB hW) k hk
    exact ⟨b, off, cs.toArray, q1, q4, q5⟩
  have HWR : Hid (∀ W, Below w.heap.size w W → RB W a5 c.wrote) := fun W hW => by
    obtain ⟨_, _, e1, q1, -, -⟩ := rd_bytes (hC.wr.below hB hW)
    simp only [List.cons.injEq, Value.slice.injEq, and_true, true_and] at e1
    obtain ⟨rfl, rfl⟩ := e1
    exact q1
  have HOK : Hid (connF c = 0) := hv.okc
  obtain ⟨R, hR⟩ : ∃ R, R = fliV c := ⟨_, rfl⟩
  rw [← hR]
  have HR : Hid _ := hR
  have HBW : Hid (B ≤ w.heap.size) := hB
  have HRN : Hid (∀ k (hk : k < c.subs.length), flOk c.wrote c.subs[k] = false → fliV c = false) := fun k hk h => by
    unfold fliV; rw [List.all_eq_false]; exact ⟨_, List.getElem_mem hk, by simp [h]⟩
  have HRY : Hid ((∀ k (hk : k < c.subs.length), flOk c.wrote c.subs[k] = true) → fliV c = true) := fun h => by
    unfold fliV; rw [List.all_eq_true]; intro x hx; obtain ⟨k, hk, rfl⟩ := List.getElem_of_mem hx; exact h k hk
  have hsz : c.subs.length ≤ 9223372036854775807 := by omega
  have HSL : Hid (∀ k (hk : k < c.subs.length), (flsD c.subs[k]).length ≤ 12) := fun k hk => conn_snd hv.okc hk hsz
  obtain ⟨sn, hsn⟩ : ∃ n, n = c.subs.length := ⟨_, rfl⟩
  rw [← hsn] at v13 hms hsz
  have HSN : Hid (sn = c.subs.length) := hsn
  obtain ⟨wl, hwl⟩ : ∃ n, n = c.wrote.length := ⟨_, rfl⟩
  rw [← hwl] at v5 cp1
  have HWL : Hid (wl = c.wrote.length) := hwl
  have HCP : Hid (wl ≤ q5) := cp1
  clear hv hC hO hB hR hsn hwl cp1 cp2 hms
  have HWA : Hid (Below w.heap.size w (w.alloc (.cells V 114)) ∧ (w.alloc (.cells V 114)).heap.size = w.heap.size + 1 ∧ (∀ o, (w.alloc (.cells V 114)).cell? ⟨w.heap.size, o, none⟩ = V[o]?)) := ⟨(Below.refl _ _).alloc (Nat.le_refl _) _, by simp, fun o => by simp [go_sem]⟩
  go_enter Tryz.func38, Tryz.ntmps38
  go_upto_region 1 with fail
  generalize hWW : w.alloc (.cells V 114) = W1 at HWA ⊢
  clear hWW
  obtain ⟨hb, hsz, k0⟩ := HWA.out
  clear HWA
  have HB : Hid (Below w.heap.size w W1) := hb
  have z0 : w.heap.size < W1.heap.size := by omega
  clear hb hsz
  have HV : Hid ((∀ o, W1.cell? ⟨w.heap.size, o, none⟩ = V[o]?) ∧ w.heap.size < W1.heap.size) := ⟨k0, z0⟩
  go_wp2_with fail
  clear k0 z0
  go_loopw [10] (fun i wr => ∃ k : Nat, k ≤ sn ∧ i = .int .i64 k ∧ Hid (∀ q (hq : q < c.subs.length), q < k → flOk c.wrote c.subs[q] = true) ∧ Hid (Below w.heap.size w wr) ∧ Hid ((∀ o, wr.cell? ⟨w.heap.size, o, none⟩ = V[o]?) ∧ w.heap.size < wr.heap.size)) (fun i _ => sn - (intOf i).toNat)
  case atStart => exact ⟨0, Nat.zero_le _, rfl, fun q _ hq => absurd hq (Nat.not_lt_zero _), HB, HV⟩
  case round =>
    clear HB HV
    obtain ⟨k, hk, rfl, HQ, HB, HV⟩ := hrel
    obtain ⟨k0, z0⟩ := HV.out
    clear HV
    by_cases hlt : k < sn
    · have hk0 : (0 : Int) ≤ (k : Int) := by omega
      have hkn : (k : Int) < (sn : Int) := by omega
      have hkl : k < c.subs.length := by rw [← HSN.out]; exact hlt
      have HKL : Hid (k < c.subs.length) := hkl
      obtain ⟨sb, so, X, rfl, hrg, hrx⟩ := HSB.out wr HB.out k hkl
      obtain ⟨xs, hxs⟩ : ∃ xs : DSub, xs = c.subs[k]'hkl := ⟨_, rfl⟩
      replace hrx : shSub.Rd wr B xs X.toList := by rw [hxs]; exact hrx
      obtain ⟨fa, fc, x9, hfl⟩ := sub_fl hrx
      have hXz : X.size = 16 := rd_size hrx
      have HXZ : Hid (X.size = 16) := hXz
      have HXI : Hid ((Tryz.prog.info? 106).map (·.size) = some X.size) := by show _ = _; rw [hXz]; exact info_SubI
      have HXJ : Hid ((Tryz.prog.info? 106).map (·.size) = some X.toList.length) := by show _ = _; rw [Array.length_toList]; exact HXI.out
      have HXO : Hid (X.all (·.oneCell') = true) := rd_all hrx
      have HRG : Hid (wr.rangeAt sb (so + k * 16) X.toList) := hrg
      obtain ⟨fl, hfe⟩ : ∃ fl, fl = flsD xs := ⟨_, rfl⟩
      rw [← hfe] at x9 hfl
      have hfn : fl.length ≤ 12 := by subst hfe; subst hxs; exact HSL.out k hkl
      have HFO : Hid (∀ i (hi : i < fl.length), 0 ≤ fl[i].2.1 ∧ fl[i].2.1 + (fl[i].2.2.1.length : Int) ≤ 400 ∧ 0 < fl[i].2.2.1.length) := fun i hi => by subst hfe; subst hxs; exact conn_fls HOK.out hkl hi
      have HFN : Hid (∀ i (hi : i < fl.length), stV c.wrote fl[i].2.1 fl[i].2.2.1 = false → fliV c = false) := fun i hi h => HRN.out k hkl ((congrArg (flOk c.wrote) hxs).symm.trans (by unfold flOk; rw [← hfe, List.all_eq_false]; exact ⟨_, List.getElem_mem hi, by simp [h]⟩))
      have HFY : Hid ((∀ i (hi : i < fl.length), stV c.wrote fl[i].2.1 fl[i].2.2.1 = true) → flOk c.wrote xs = true) := fun h => by unfold flOk; rw [← hfe, List.all_eq_true]; intro x hx; obtain ⟨i, hi, rfl⟩ := List.getElem_of_mem hx; exact h i hi
      have HFR : Hid (∀ W, Below wr.heap.size wr W → shFlights.Rd W B fl [.slice fa fl.length fc]) := fun W hW => Sh.Rd.below (s := shFlights) hfl (Nat.le_trans HBW.out HB.out.size) hW
      have HBO : Hid (Below wr.heap.size wr wr) := Below.refl _ _
      have HXS : Hid (∀ hk : k < c.subs.length, flOk c.wrote xs = flOk c.wrote (c.subs[k]'hk)) := fun _ => congrArg (flOk c.wrote) hxs
      clear hrg hrx hXz hfe hfl hlt hkl hxs
      have HTH : Hid ((wr.alloc (.cells #[.int .i64 0, .int .i64 0, .bool false, .int .i64 0, .int .i64 0, .int .i64 0, .int .i64 0, .int .i64 0, .int .i64 0, .slice none 0 0, .int .i64 0, .int .i64 0, .slice none 0 0, .int .i64 0, .int .i64 0, .int .i64 0] 106)).there wr.heap.size 0 X.size) := bx_there (bx_al _ _ _) (fx_al _ _ _) (by rw [HXZ.out]; rfl)
      have HWN : Hid (Below wr.heap.size wr ((wr.alloc (.cells #[.int .i64 0, .int .i64 0, .bool false, .int .i64 0, .int .i64 0, .int .i64 0, .int .i64 0, .int .i64 0, .int .i64 0, .slice none 0 0, .int .i64 0, .int .i64 0, .slice none 0 0, .int .i64 0, .int .i64 0, .int .i64 0] 106)).setCells wr.heap.size 0 X.toList) ∧ wr.heap.size < ((wr.alloc (.cells #[.int .i64 0, .int .i64 0, .bool false, .int .i64 0, .int .i64 0, .int .i64 0, .int .i64 0, .int .i64 0, .int .i64 0, .slice none 0 0, .int .i64 0, .int .i64 0, .slice none 0 0, .int .i64 0, .int .i64 0, .int .i64 0] 106)).setCells wr.heap.size 0 X.toList).heap.size ∧ (∀ o, ((wr.alloc (.cells #[.int .i64 0, .int .i64 0, .bool false, .int .i64 0, .int .i64 0, .int .i64 0, .int .i64 0, .int .i64 0, .int .i64 0, .slice none 0 0, .int .i64 0, .int .i64 0, .slice none 0 0, .int .i64 0, .int .i64 0, .int .i64 0] 106)).setCells wr.heap.size 0 X.toList).cell? ⟨wr.heap.size, o, none⟩ = X[o]?) ∧ (∀ o, ((wr.alloc (.cells #[.int .i64 0, .int .i64 0, .bool false, .int .i64 0, .int .i64 0, .int .i64 0, .int .i64 0, .int .i64 0, .int .i64 0, .slice none 0 0, .int .i64 0, .int .i64 0, .slice none 0 0, .int .i64 0, .int .i64 0, .int .i64 0] 106)).setCells wr.heap.size 0 X.toList).frozen? ⟨wr.heap.size, o, none⟩ = false)) := ⟨setCells_below (Nat.le_refl _) _ _ _ _ ((Below.refl _ _).alloc (Nat.le_refl _) _), by rw [setCells_size]; simp, bx_setCells (bx_al wr _ _) (by rw [HXZ.out]; rfl), fx_sets (fx_al _ _ _)⟩
      go_upto_region 4 with (first | (refine wpList_load_mid rfl 106 _ rfl _ _ (by rfl) X.toList _ HRG.out Tryz.underlying106 rfl HXJ.out ?_) | (refine wpList_store_mid rfl 106 _ _ rfl _ _ X (by rfl) (by rfl) HTH.out HXI.out HXO.out ?_))
      generalize hWW : ((wr.alloc (.cells #[.int .i64 0, .int .i64 0, .bool false, .int .i64 0, .int .i64 0, .int .i64 0, .int .i64 0, .int .i64 0, .int .i64 0, .slice none 0 0, .int .i64 0, .int .i64 0, .slice none 0 0, .int .i64 0, .int .i64 0, .int .i64 0] 106)).setCells wr.heap.size 0 X.toList) = W2 at HWN ⊢
      clear hWW HTH
      obtain ⟨hb, zX, kX, fX⟩ := HWN.out
      replace HBO : Hid (Below wr.heap.size wr W2) := hb
      clear HWN
      obtain ⟨bX, hq⟩ : ∃ q, q = wr.heap.size := ⟨_, rfl⟩
      rw [← hq] at zX kX fX ⊢
      have l0X : w.heap.size < bX := by rw [hq]; exact z0
      have lwX : w.heap.size ≤ bX := by rw [hq]; exact HB.out.size
      clear hq
      replace k0 := bx_below k0 z0 hb
      replace z0 := Nat.lt_of_lt_of_le z0 hb.size
      replace HB : Hid (Below w.heap.size w W2) := HB.out.trans (hb.mono HB.out.size)
      clear hb
      clear fX HXZ HXI HXJ HXO HRG l0X lwX
      have HV2 : Hid ((∀ o, W2.cell? ⟨w.heap.size, o, none⟩ = V[o]?) ∧ w.heap.size < W2.heap.size) := ⟨k0, z0⟩
      obtain ⟨fn, hfe⟩ : ∃ n, n = fl.length := ⟨_, rfl⟩
      rw [← hfe] at x9 hfn
      have HFL : Hid (fn = fl.length) := hfe
      clear hfe k0 z0
      go_wp2_with fail
      clear kX zX
      have HB2 : Hid (Below w.heap.size w W2) := HB
      clear HB
      go_loopw [18] (fun i wq => ∃ j : Nat, j ≤ fn ∧ i = .int .i64 j ∧ Hid (∀ q (hq : q < fl.length), q < j → stV c.wrote fl[q].2.1 fl[q].2.2.1 = true) ∧ Hid (Below w.heap.size w wq) ∧ Hid (Below wr.heap.size wr wq) ∧ Hid ((∀ o, wq.cell? ⟨w.heap.size, o, none⟩ = V[o]?) ∧ w.heap.size < wq.heap.size)) (fun i _ => fn - (intOf i).toNat)
      case atStart => exact ⟨0, Nat.zero_le _, rfl, fun q _ hq => absurd hq (Nat.not_lt_zero _), HB2, HBO, HV2⟩
      case round =>
        clear HB2 HBO HV2
        rename World => wq0
        obtain ⟨wq, hwq⟩ : ∃ x, x = wq0 := ⟨_, rfl⟩
        rw [← hwq] at hrel ⊢
        clear hwq wq0
        obtain ⟨j, hj, rfl, HQ2, HB, HBO, HV⟩ := hrel
        obtain ⟨k0, z0⟩ := HV.out
        clear HV
        by_cases hlt : j < fn
        · have hj0 : (0 : Int) ≤ (j : Int) := by omega
          have hjn : (j : Int) < (fn : Int) := by omega
          have hjl : j < fl.length := by rw [← HFL.out]; exact hlt
          have HJL : Hid (j < fl.length) := hjl
          obtain ⟨fb, fo, ys, rfl, -, hyl, hrg, hry⟩ := row_at (HFR.out wq HBO.out) j hjl
          replace hrg : wq.rangeAt fb (fo + j * 5) ys := hrg
          obtain ⟨Y, rfl⟩ : ∃ Y : Array Value, ys = Y.toList := ⟨ys.toArray, rfl⟩
          obtain ⟨ff, hff⟩ : ∃ ff : DFlight, ff = fl[j]'hjl := ⟨_, rfl⟩
          replace hry : shFlight.Rd wq B ff Y.toList := by rw [hff]; exact hry
          obtain ⟨la, lc, y1, y2, hld⟩ := fl_ld hry
          have hYz : Y.size = 5 := rd_size hry
          have HYZ : Hid (Y.size = 5) := hYz
          have HYI : Hid ((Tryz.prog.info? 108).map (·.size) = some Y.size) := by show _ = _; rw [hYz]; exact (by kernel_rfl : (Tryz.prog.info? 108).map (·.size) = some 5)
          have HYJ : Hid ((Tryz.prog.info? 108).map (·.size) = some Y.toList.length) := by show _ = _; rw [Array.length_toList]; exact HYI.out
          have HYO : Hid (Y.all (·.oneCell') = true) := rd_all hry
          have HRG : Hid (wq.rangeAt fb (fo + j * 5) Y.toList) := hrg
          obtain ⟨o1, o2, o3⟩ : 0 ≤ ff.2.1 ∧ ff.2.1 + (ff.2.2.1.length : Int) ≤ 400 ∧ 0 < ff.2.2.1.length := by subst hff; exact HFO.out j hjl
          obtain ⟨dt, hdt⟩ : ∃ x, x = ff.2.1 := ⟨_, rfl⟩
          obtain ⟨ld, hldd⟩ : ∃ x, x = ff.2.2.1 := ⟨_, rfl⟩
          rw [← hdt] at y1 o1 o2
          rw [← hldd] at y2 hld o2 o3
          have HSA : Hid (∀ W, Below w.heap.size w W → Below wq.heap.size wq W → Calls Tryz.prog 67 #[.slice a5 wl q5, .int .i64 dt, .slice la ld.length lc] W fun e w' => e = .returned (.bool (stV c.wrote dt ld)) ∧ w' = W) := fun W hW hW2 => by
            obtain ⟨_, _, e1, q2, -, -⟩ := rd_bytes (hld.below (Nat.le_trans HBW.out HB.out.size) hW2)
            simp only [List.cons.injEq, Value.slice.injEq, and_true, true_and] at e1
            obtain ⟨rfl, rfl⟩ := e1
            rw [HWL.out]
            exact iStandsAt c.wrote ld a5 _ q5 _ dt W (HWR.out W hW) q2 o3 o1 (by omega) (by rw [← HWL.out]; exact HCP.out) cp4
          have HFN2 : Hid (stV c.wrote dt ld = false → fliV c = false) := fun h => HFN.out j hjl (by subst hdt; subst hldd; subst hff; exact h)
          have HQ3 : Hid (stV c.wrote dt ld = true → ∀ q (hq : q < fl.length), q < j + 1 → stV c.wrote fl[q].2.1 fl[q].2.2.1 = true) := fun h q hq hl => (Nat.lt_or_eq_of_le (Nat.le_of_lt_succ hl)).elim (fun h' => HQ2.out q hq h') (fun h' => by subst h'; subst hdt; subst hldd; subst hff; exact h)
          have HBO2 : Hid (Below wq.heap.size wq wq) := Below.refl _ _
          clear hrg hry hYz hyl hld hdt hldd hff hlt hjl o1 o2 o3 HQ2
          generalize ld.length = ln at *
          have HTH : Hid ((wq.alloc (.cells #[.int .i64 0, .int .i64 0, .slice none 0 0, .int .i64 0, .int .i64 0] 108)).there wq.heap.size 0 Y.size) := bx_there (bx_al _ _ _) (fx_al _ _ _) (by rw [HYZ.out]; rfl)
          have HWN : Hid (Below wq.heap.size wq ((wq.alloc (.cells #[.int .i64 0, .int .i64 0, .slice none 0 0, .int .i64 0, .int .i64 0] 108)).setCells wq.heap.size 0 Y.toList) ∧ wq.heap.size < ((wq.alloc (.cells #[.int .i64 0, .int .i64 0, .slice none 0 0, .int .i64 0, .int .i64 0] 108)).setCells wq.heap.size 0 Y.toList).heap.size ∧ (∀ o, ((wq.alloc (.cells #[.int .i64 0, .int .i64 0, .slice none 0 0, .int .i64 0, .int .i64 0] 108)).setCells wq.heap.size 0 Y.toList).cell? ⟨wq.heap.size, o, none⟩ = Y[o]?) ∧ (∀ o, ((wq.alloc (.cells #[.int .i64 0, .int .i64 0, .slice none 0 0, .int .i64 0, .int .i64 0] 108)).setCells wq.heap.size 0 Y.toList).frozen? ⟨wq.heap.size, o, none⟩ = false)) := ⟨setCells_below (Nat.le_refl _) _ _ _ _ ((Below.refl _ _).alloc (Nat.le_refl _) _), by rw [setCells_size]; simp, bx_setCells (bx_al wq _ _) (by rw [HYZ.out]; rfl), fx_sets (fx_al _ _ _)⟩
          go_upto_region 7 with (first | (refine wpList_load_mid rfl 108 _ rfl _ _ (by rfl) Y.toList _ HRG.out Tryz.underlying108 rfl HYJ.out ?_) | (refine wpList_store_mid rfl 108 _ _ rfl _ _ Y (by rfl) (by rfl) HTH.out HYI.out HYO.out ?_))
          generalize hWW : ((wq.alloc (.cells #[.int .i64 0, .int .i64 0, .slice none 0 0, .int .i64 0, .int .i64 0] 108)).setCells wq.heap.size 0 Y.toList) = W3 at HWN ⊢
          clear hWW HTH
          obtain ⟨hb, zY, kY, fY⟩ := HWN.out
          replace HBO : Hid (Below wr.heap.size wr W3) := HBO.out.trans (hb.mono HBO.out.size)
          replace HBO2 : Hid (Below wq.heap.size wq W3) := hb
          clear HWN
          obtain ⟨bY, hq⟩ : ∃ q, q = wq.heap.size := ⟨_, rfl⟩
          rw [← hq] at zY kY fY ⊢
          have l0Y : w.heap.size < bY := by rw [hq]; exact z0
          have lwY : w.heap.size ≤ bY := by rw [hq]; exact HB.out.size
          clear hq
          replace k0 := bx_below k0 z0 hb
          replace z0 := Nat.lt_of_lt_of_le z0 hb.size
          replace HB : Hid (Below w.heap.size w W3) := HB.out.trans (hb.mono HB.out.size)
          clear hb
          clear fY HYZ HYI HYJ HYO HRG l0Y lwY
          have HV3 : Hid ((∀ o, W3.cell? ⟨w.heap.size, o, none⟩ = V[o]?) ∧ w.heap.size < W3.heap.size) := ⟨k0, z0⟩
          cases hst : stV c.wrote dt ld with
          | false =>
            have HR' : Hid (R = false) := by show _ = _; rw [HR.out]; exact HFN2.out hst
            rw [hst] at HSA
            clear hst HFN2 HQ3 HR HV3
            go_wp2_with (first | (go_at_call 67; refine (HSA.out _ HB.out HBO2.out).mono ?_; rintro e w' ⟨rfl, hw⟩; subst w') | (go_at_call 63; refine (iMustF _).mono ?_; rintro e w' ⟨rfl, hw⟩; subst w'))
            exact ⟨rfl, by rw [HR'.out]; rfl, HB.out⟩
          | true =>
            have HQ4 := HQ3.out hst
            have HQ5 : Hid _ := HQ4
            rw [hst] at HSA
            clear hst HFN2 HQ3 HQ4
            go_wp2_with (first | (go_at_call 67; refine (HSA.out _ HB.out HBO2.out).mono ?_; rintro e w' ⟨rfl, hw⟩; subst w') | (go_at_call 63; refine (iMustT _).mono ?_; rintro e w' ⟨rfl, hw⟩; subst w'))
            go_roundw
            case rel => exact ⟨j + 1, by omega, by go_num, HQ5.out, HB, HBO, HV3⟩
            case measure => simp [intOf]; omega
        · obtain rfl : j = fn := by omega
          have HKO : Hid (flOk c.wrote xs = true) := HFY.out fun i hi => HQ2.out i hi (by rw [HFL.out]; exact hi)
          have HQ3 : Hid (∀ q (hq : q < c.subs.length), q < k + 1 → flOk c.wrote c.subs[q] = true) := fun q hq hl => (Nat.lt_or_eq_of_le (Nat.le_of_lt_succ hl)).elim (fun h' => HQ.out q hq h') (fun h' => by subst h'; exact (HXS.out _).symm.trans HKO.out)
          have HV3 : Hid ((∀ o, wq.cell? ⟨w.heap.size, o, none⟩ = V[o]?) ∧ w.heap.size < wq.heap.size) := ⟨k0, z0⟩
          clear HQ HQ2 HKO HFY HFN HFO HFR
          go_wp2_with fail
          go_roundw
          case rel => exact ⟨k + 1, by rw [HSN.out]; exact HKL.out, by go_num, HQ3.out, HB, HV3⟩
          case measure => simp [intOf]; have := HKL.out; have := HSN.out; omega
    · obtain rfl : k = sn := by omega
      have HR' : Hid (R = true) := by show _ = _; rw [HR.out]; exact HRY.out fun q hq => HQ.out q hq (by rw [HSN.out]; exact hq)
      clear HR HRY HRN HQ
      go_wp2_with fail
      go_end0
      exact ⟨by rw [HR'.out]; rfl, HB.out⟩
end Go.Proofs.YtnfkjdcnngoeiabGreat

/- The program's PrefixOf, HeldRight, FlightsRight, KnownRight, SafeWorld; nothing that was in memory turns; no condition but that there are at most a million parts. Written by mkaud5.py. -/
namespace Go.Proofs.YtnfkjdcnngoeiabGreat
open Go.RowKit
set_option linter.unusedVariables false
set_option maxRecDepth 8000

theorem allB_one (b : Bool) : allB (fun _ => b) 1 = b := by unfold allB; simp
def prefixW : DWorld → Int → Bool := askV fun _ o g e => preV o g e
noncomputable def heldW : DWorld → Int → Bool := askV fun c o _ _ => heldV c o
def flightsW : DWorld → Int → Bool := askV fun c _ _ _ => fliV c
def knownW : DWorld → Int → Bool := askV fun c o _ _ => knoV c o
theorem fnwantPrefix (args : Array Value) (W : World) : Sem.run Tryz.prog (callFunc 36 args) W = .ok (.enter 36 args) W := by simp [go_sem]
set_option maxHeartbeats 2000000 in
theorem iPrefixOf (x : DWorld) (A : Array Value) (s : Int) (w : World) (B : Nat) (hr : shWorld.Rd w B x A.toList) (hB : B ≤ w.heap.size) (hT : totWorld x ≤ 1048576) :
    Calls Tryz.prog 16 #[.agg A, .int .i64 s] w fun e w' => e = .returned (.bool (prefixW x s)) ∧ Below w.heap.size w w' := by
  obtain ⟨R, hR⟩ : ∃ R, R = prefixW x s := ⟨_, rfl⟩
  rw [← hR]
  have HI : Hid ((Tryz.prog.info? 37).map (·.size) = some A.toList.length) := by show _ = _; rw [Array.length_toList, rd_size hr]; exact (by kernel_rfl : (Tryz.prog.info? 37).map (·.size) = some 6)
  have HC : Hid (∀ (W : World) (wb cap : Nat), Below w.heap.size w W → wb < W.heap.size → W.cell? ⟨wb, 0, none⟩ = some (.func (.func 36) #[] #[]) → Calls Tryz.prog 52 #[.agg A, .int .i64 s, .slice (some ⟨wb, 0, none⟩) 1 cap] W fun e w' => e = .returned (.bool R) ∧ Below W.heap.size W w') := fun W wb cap hW hwb hc => by
    have h := iIsRight x A s wb 0 1 cap (fun _ => 36) (fun _ => (fun _ o g e => preV o g e) (x.cn s.toNat) (x.cn (1 - s).toNat) (x.gt s.toNat) (x.en s.toNat)) W B (Sh.Rd.below hr hB hW) (Nat.le_trans hB hW.size) hT hwb (by omega) (fun k hk => by have e : k = 0 := (by omega); rw [e]; exact hc) (fun _ _ => fnwantPrefix) (fun k k' hk hs j hj W' V' hW' hv => by
      have e1 : s.toNat = k := by omega
      have e2 : (1 - s).toNat = k' := by omega
      rw [e1, e2]
      exact iWantPrefix _ _ _ _ V' W' B hv (Nat.le_trans (Nat.le_trans hB hW.size) hW'.size))
    rw [allB_one] at h
    rw [hR]
    exact h
  clear hR hr hB hT
  have HWA : Hid (Below w.heap.size w (w.alloc (.cells A 37)) ∧ (w.alloc (.cells A 37)).heap.size = w.heap.size + 1 ∧ (∀ o, (w.alloc (.cells A 37)).cell? ⟨w.heap.size, o, none⟩ = A[o]?)) := ⟨(Below.refl _ _).alloc (Nat.le_refl _) _, by simp, fun o => by simp [go_sem]⟩
  go_enter Tryz.func16, Tryz.ntmps16
  go_upto_region 1 with fail
  generalize hWW : w.alloc (.cells A 37) = W1 at HWA ⊢
  clear hWW
  obtain ⟨hb, hsz, kA⟩ := HWA.out
  clear HWA
  have HB : Hid (Below w.heap.size w W1) := hb
  have zA : w.heap.size < W1.heap.size := by omega
  clear hb hsz
  go_wp2_with (first | (refine wpList_load_mid rfl 37 _ rfl _ _ (by rfl) A.toList _ (bx_range kA) Tryz.underlying37 rfl HI.out ?_))
  refine (HC.out _ W1.heap.size _ (HB.out.trans ((Below.refl W1.heap.size W1).alloc (Nat.le_refl _) _ |>.mono HB.out.size)) (by simp) (by simp [go_sem])).mono ?_
  rintro e W2 ⟨rfl, hb⟩
  have HB2 : Hid (Below w.heap.size w W2) := HB.out.trans (((Below.refl W1.heap.size W1).alloc (Nat.le_refl _) _).trans (hb.mono (by simp)) |>.mono HB.out.size)
  clear hb HC HB HI kA zA
  go_wp2_with fail
  go_ret
  exact ⟨rfl, HB2.out⟩
theorem fnwantHeld (args : Array Value) (W : World) : Sem.run Tryz.prog (callFunc 37 args) W = .ok (.enter 37 args) W := by simp [go_sem]
set_option maxHeartbeats 2000000 in
theorem iHeldRight (x : DWorld) (A : Array Value) (s : Int) (w : World) (B : Nat) (hr : shWorld.Rd w B x A.toList) (hB : B ≤ w.heap.size) (hT : totWorld x ≤ 1048576) :
    Calls Tryz.prog 17 #[.agg A, .int .i64 s] w fun e w' => e = .returned (.bool (heldW x s)) ∧ Below w.heap.size w w' := by
  obtain ⟨R, hR⟩ : ∃ R, R = heldW x s := ⟨_, rfl⟩
  rw [← hR]
  have HI : Hid ((Tryz.prog.info? 37).map (·.size) = some A.toList.length) := by show _ = _; rw [Array.length_toList, rd_size hr]; exact (by kernel_rfl : (Tryz.prog.info? 37).map (·.size) = some 6)
  have HC : Hid (∀ (W : World) (wb cap : Nat), Below w.heap.size w W → wb < W.heap.size → W.cell? ⟨wb, 0, none⟩ = some (.func (.func 37) #[] #[]) → Calls Tryz.prog 52 #[.agg A, .int .i64 s, .slice (some ⟨wb, 0, none⟩) 1 cap] W fun e w' => e = .returned (.bool R) ∧ Below W.heap.size W w') := fun W wb cap hW hwb hc => by
    have h := iIsRight x A s wb 0 1 cap (fun _ => 37) (fun _ => (fun c o _ _ => heldV c o) (x.cn s.toNat) (x.cn (1 - s).toNat) (x.gt s.toNat) (x.en s.toNat)) W B (Sh.Rd.below hr hB hW) (Nat.le_trans hB hW.size) hT hwb (by omega) (fun k hk => by have e : k = 0 := (by omega); rw [e]; exact hc) (fun _ _ => fnwantHeld) (fun k k' hk hs j hj W' V' hW' hv => by
      have e1 : s.toNat = k := by omega
      have e2 : (1 - s).toNat = k' := by omega
      rw [e1, e2]
      exact iWantHeld _ _ _ _ V' W' B hv (Nat.le_trans (Nat.le_trans hB hW.size) hW'.size))
    rw [allB_one] at h
    rw [hR]
    exact h
  clear hR hr hB hT
  have HWA : Hid (Below w.heap.size w (w.alloc (.cells A 37)) ∧ (w.alloc (.cells A 37)).heap.size = w.heap.size + 1 ∧ (∀ o, (w.alloc (.cells A 37)).cell? ⟨w.heap.size, o, none⟩ = A[o]?)) := ⟨(Below.refl _ _).alloc (Nat.le_refl _) _, by simp, fun o => by simp [go_sem]⟩
  go_enter Tryz.func17, Tryz.ntmps17
  go_upto_region 1 with fail
  generalize hWW : w.alloc (.cells A 37) = W1 at HWA ⊢
  clear hWW
  obtain ⟨hb, hsz, kA⟩ := HWA.out
  clear HWA
  have HB : Hid (Below w.heap.size w W1) := hb
  have zA : w.heap.size < W1.heap.size := by omega
  clear hb hsz
  go_wp2_with (first | (refine wpList_load_mid rfl 37 _ rfl _ _ (by rfl) A.toList _ (bx_range kA) Tryz.underlying37 rfl HI.out ?_))
  refine (HC.out _ W1.heap.size _ (HB.out.trans ((Below.refl W1.heap.size W1).alloc (Nat.le_refl _) _ |>.mono HB.out.size)) (by simp) (by simp [go_sem])).mono ?_
  rintro e W2 ⟨rfl, hb⟩
  have HB2 : Hid (Below w.heap.size w W2) := HB.out.trans (((Below.refl W1.heap.size W1).alloc (Nat.le_refl _) _).trans (hb.mono (by simp)) |>.mono HB.out.size)
  clear hb HC HB HI kA zA
  go_wp2_with fail
  go_ret
  exact ⟨rfl, HB2.out⟩
theorem fnwantFlights (args : Array Value) (W : World) : Sem.run Tryz.prog (callFunc 38 args) W = .ok (.enter 38 args) W := by simp [go_sem]
set_option maxHeartbeats 2000000 in
theorem iFlightsRight (x : DWorld) (A : Array Value) (s : Int) (w : World) (B : Nat) (hr : shWorld.Rd w B x A.toList) (hB : B ≤ w.heap.size) (hT : totWorld x ≤ 1048576) :
    Calls Tryz.prog 18 #[.agg A, .int .i64 s] w fun e w' => e = .returned (.bool (flightsW x s)) ∧ Below w.heap.size w w' := by
  obtain ⟨R, hR⟩ : ∃ R, R = flightsW x s := ⟨_, rfl⟩
  rw [← hR]
  have HI : Hid ((Tryz.prog.info? 37).map (·.size) = some A.toList.length) := by show _ = _; rw [Array.length_toList, rd_size hr]; exact (by kernel_rfl : (Tryz.prog.info? 37).map (·.size) = some 6)
  have HC : Hid (∀ (W : World) (wb cap : Nat), Below w.heap.size w W → wb < W.heap.size → W.cell? ⟨wb, 0, none⟩ = some (.func (.func 38) #[] #[]) → Calls Tryz.prog 52 #[.agg A, .int .i64 s, .slice (some ⟨wb, 0, none⟩) 1 cap] W fun e w' => e = .returned (.bool R) ∧ Below W.heap.size W w') := fun W wb cap hW hwb hc => by
    have h := iIsRight x A s wb 0 1 cap (fun _ => 38) (fun _ => (fun c _ _ _ => fliV c) (x.cn s.toNat) (x.cn (1 - s).toNat) (x.gt s.toNat) (x.en s.toNat)) W B (Sh.Rd.below hr hB hW) (Nat.le_trans hB hW.size) hT hwb (by omega) (fun k hk => by have e : k = 0 := (by omega); rw [e]; exact hc) (fun _ _ => fnwantFlights) (fun k k' hk hs j hj W' V' hW' hv => by
      have e1 : s.toNat = k := by omega
      have e2 : (1 - s).toNat = k' := by omega
      rw [e1, e2]
      exact iWantFlights _ _ _ _ V' W' B hv (Nat.le_trans (Nat.le_trans hB hW.size) hW'.size))
    rw [allB_one] at h
    rw [hR]
    exact h
  clear hR hr hB hT
  have HWA : Hid (Below w.heap.size w (w.alloc (.cells A 37)) ∧ (w.alloc (.cells A 37)).heap.size = w.heap.size + 1 ∧ (∀ o, (w.alloc (.cells A 37)).cell? ⟨w.heap.size, o, none⟩ = A[o]?)) := ⟨(Below.refl _ _).alloc (Nat.le_refl _) _, by simp, fun o => by simp [go_sem]⟩
  go_enter Tryz.func18, Tryz.ntmps18
  go_upto_region 1 with fail
  generalize hWW : w.alloc (.cells A 37) = W1 at HWA ⊢
  clear hWW
  obtain ⟨hb, hsz, kA⟩ := HWA.out
  clear HWA
  have HB : Hid (Below w.heap.size w W1) := hb
  have zA : w.heap.size < W1.heap.size := by omega
  clear hb hsz
  go_wp2_with (first | (refine wpList_load_mid rfl 37 _ rfl _ _ (by rfl) A.toList _ (bx_range kA) Tryz.underlying37 rfl HI.out ?_))
  refine (HC.out _ W1.heap.size _ (HB.out.trans ((Below.refl W1.heap.size W1).alloc (Nat.le_refl _) _ |>.mono HB.out.size)) (by simp) (by simp [go_sem])).mono ?_
  rintro e W2 ⟨rfl, hb⟩
  have HB2 : Hid (Below w.heap.size w W2) := HB.out.trans (((Below.refl W1.heap.size W1).alloc (Nat.le_refl _) _).trans (hb.mono (by simp)) |>.mono HB.out.size)
  clear hb HC HB HI kA zA
  go_wp2_with fail
  go_ret
  exact ⟨rfl, HB2.out⟩
theorem fnwantKnown (args : Array Value) (W : World) : Sem.run Tryz.prog (callFunc 39 args) W = .ok (.enter 39 args) W := by simp [go_sem]
set_option maxHeartbeats 2000000 in
theorem iKnownRight (x : DWorld) (A : Array Value) (s : Int) (w : World) (B : Nat) (hr : shWorld.Rd w B x A.toList) (hB : B ≤ w.heap.size) (hT : totWorld x ≤ 1048576) :
    Calls Tryz.prog 19 #[.agg A, .int .i64 s] w fun e w' => e = .returned (.bool (knownW x s)) ∧ Below w.heap.size w w' := by
  obtain ⟨R, hR⟩ : ∃ R, R = knownW x s := ⟨_, rfl⟩
  rw [← hR]
  have HI : Hid ((Tryz.prog.info? 37).map (·.size) = some A.toList.length) := by show _ = _; rw [Array.length_toList, rd_size hr]; exact (by kernel_rfl : (Tryz.prog.info? 37).map (·.size) = some 6)
  have HC : Hid (∀ (W : World) (wb cap : Nat), Below w.heap.size w W → wb < W.heap.size → W.cell? ⟨wb, 0, none⟩ = some (.func (.func 39) #[] #[]) → Calls Tryz.prog 52 #[.agg A, .int .i64 s, .slice (some ⟨wb, 0, none⟩) 1 cap] W fun e w' => e = .returned (.bool R) ∧ Below W.heap.size W w') := fun W wb cap hW hwb hc => by
    have h := iIsRight x A s wb 0 1 cap (fun _ => 39) (fun _ => (fun c o _ _ => knoV c o) (x.cn s.toNat) (x.cn (1 - s).toNat) (x.gt s.toNat) (x.en s.toNat)) W B (Sh.Rd.below hr hB hW) (Nat.le_trans hB hW.size) hT hwb (by omega) (fun k hk => by have e : k = 0 := (by omega); rw [e]; exact hc) (fun _ _ => fnwantKnown) (fun k k' hk hs j hj W' V' hW' hv => by
      have e1 : s.toNat = k := by omega
      have e2 : (1 - s).toNat = k' := by omega
      rw [e1, e2]
      exact iWantKnown _ _ _ _ V' W' B hv (Nat.le_trans (Nat.le_trans hB hW.size) hW'.size))
    rw [allB_one] at h
    rw [hR]
    exact h
  clear hR hr hB hT
  have HWA : Hid (Below w.heap.size w (w.alloc (.cells A 37)) ∧ (w.alloc (.cells A 37)).heap.size = w.heap.size + 1 ∧ (∀ o, (w.alloc (.cells A 37)).cell? ⟨w.heap.size, o, none⟩ = A[o]?)) := ⟨(Below.refl _ _).alloc (Nat.le_refl _) _, by simp, fun o => by simp [go_sem]⟩
  go_enter Tryz.func19, Tryz.ntmps19
  go_upto_region 1 with fail
  generalize hWW : w.alloc (.cells A 37) = W1 at HWA ⊢
  clear hWW
  obtain ⟨hb, hsz, kA⟩ := HWA.out
  clear HWA
  have HB : Hid (Below w.heap.size w W1) := hb
  have zA : w.heap.size < W1.heap.size := by omega
  clear hb hsz
  go_wp2_with (first | (refine wpList_load_mid rfl 37 _ rfl _ _ (by rfl) A.toList _ (bx_range kA) Tryz.underlying37 rfl HI.out ?_))
  refine (HC.out _ W1.heap.size _ (HB.out.trans ((Below.refl W1.heap.size W1).alloc (Nat.le_refl _) _ |>.mono HB.out.size)) (by simp) (by simp [go_sem])).mono ?_
  rintro e W2 ⟨rfl, hb⟩
  have HB2 : Hid (Below w.heap.size w W2) := HB.out.trans (((Below.refl W1.heap.size W1).alloc (Nat.le_refl _) _).trans (hb.mono (by simp)) |>.mono HB.out.size)
  clear hb HC HB HI kA zA
  go_wp2_with fail
  go_ret
  exact ⟨rfl, HB2.out⟩
end Go.Proofs.YtnfkjdcnngoeiabGreat
