/- NewWorld of the program: the answer owns its memory; nothing that was in memory turns; no condition. Written by mknw2.py. -/
import Derived.Test.YtcbgedlckcjjnaaRows
import Derived.Deep.OwnRows
import Derived.Deep.RegionHeld3
import Derived.Deep.DeepCutAuto
import Derived.Deep.DeepMust
import Derived.Deep.MidRow
import Derived.Test.YtcbgedlckcjjnaaK01
import Derived.Test.YtcbgedlckcjjnaaK02
import Derived.Test.YtcbgedlckcjjnaaK03
import Derived.Test.YtcbgedlckcjjnaaK10
import Derived.Test.YtcbgedlckcjjnaaK11
import Derived.Test.YtcbgedlckcjjnaaK17
import Derived.Test.YtcbgedlckcjjnaaK19
import Derived.Test.YtcbgedlckcjjnaaK20
import Derived.Test.YtcbgedlckcjjnaaK55
import Derived.Test.YtcbgedlckcjjnaaK56
import Derived.Test.YtcbgedlckcjjnaaK57
import Derived.Test.YtcbgedlckcjjnaaK58
import Derived.Test.YtcbgedlckcjjnaaK59
import Derived.Test.YtcbgedlckcjjnaaK64
import Derived.Test.YtcbgedlckcjjnaaK65
import Derived.Test.YtcbgedlckcjjnaaK66
import Derived.Test.YtcbgedlckcjjnaaK67
import Derived.Test.YtcbgedlckcjjnaaK68
import Derived.Test.YtcbgedlckcjjnaaK69
import Derived.Test.YtcbgedlckcjjnaaK70
namespace Go.Proofs.Ytcbgedlckcjjnaa
open Go.RowKit
set_option linter.unusedVariables false
set_option maxRecDepth 8000

theorem info_C14y : (Try.prog.info? 42).map (fun i => (i.zero, i.size, i.bytes)) = some (some (.agg #[.int .i64 0, .int .i64 0, .int .i64 0, .bool false, .bool false, .slice none 0 0, .bool false, .int .i64 0, .bool false, .slice none 0 0, .slice none 0 0, .int .i64 0, .int .i64 0, .slice none 0 0]), 14, 168) := by kernel_rfl
def nl2 (a b : Int) (z : Int) : List DConn := if z = 0 then [] else if z = 1 then [nconn 0 a (-1)] else [nconn 0 a (-1), nconn 1 b (-1)]
theorem net_two {t : TypeId} {w : World} {lo : Nat} {N : Array Value} (h : NetP t w lo [] [false, false, false] N) : ∃ n1 n2 m1 m2, N = #[.slice n1 0 m1, .slice n2 3 m2] ∧ Own w lo w.heap.size (shNetT t) ([], [false, false, false], ()) [.slice n1 0 m1, .slice n2 3 m2] := by
  have ho := h.own
  obtain ⟨m, a, a', c, c', e, -⟩ := h
  subst e
  exact ⟨_, _, _, _, rfl, ho⟩
theorem make2_st {ops : Array Oper} {o : Oper} {a : Act} {Q : Exit → Act → World → Prop} {K : Act → World → Prop} {E : Prop} (w : World) (hgd : o.guard = none) (l c : Operand) (t e : TypeId) (z : Value) (bytes : Nat) (hop : o.op = Op.makeSlice t l c) (ht : Try.prog.underlying t = some (.slice e)) (hinfo : (Try.prog.info? e).map (fun i => (i.zero, i.size, i.bytes)) = some (some z, 1, bytes)) (hz1 : z.cells = #[z]) (hby : bytes * 2 ≤ 281474976710656) (hl : a.eval l = .int .i64 2) (hc : a.eval c = .int .i64 2)
    (hK : K (a.put o.dst (.slice (some ⟨w.heap.size, 0, none⟩) 2 2)) (w.alloc (.cells #[z, z] e))) : if Region.wanted o (yielded ops a.tmps) = true then Oper.wp Try.prog o a w K Q else E := by
  have hw : Region.wanted o (yielded ops a.tmps) = true := by simp [Region.wanted, hgd]
  rw [if_pos hw]
  have hrun := run_make_row' (P := Try.prog) t e z bytes ht hinfo hz1 .i64 .i64 2 hby (by decide) w
  have hm : madeCells #[z] 2 = #[z, z] := by
    refine Array.ext (by rw [size_madeCells]; rfl) fun i h1 h2 => ?_
    rw [size_madeCells] at h1
    have h1' : i < 2 := by simpa using h1
    match i, h1' with
    | 0, _ => simp [madeCells]
    | 1, _ => simp [madeCells]
  have h2 : ((2 : Nat) : Int) = 2 := rfl
  rw [hm, h2] at hrun
  unfold Oper.wp
  simp [execOp, hop, hl, hc, hrun, Result.andThen]
  exact hK
theorem info_bsY : (Try.prog.info? 22).map (fun i => (i.zero, i.size, i.bytes)) = some (some (.slice none 0 0), 1, 24) := by kernel_rfl
theorem info_bl1 : (Try.prog.info? 4).map (fun i => (i.zero, i.size, i.bytes)) = some (some (.bool false), 1, 1) := by kernel_rfl
theorem made_two (w : World) (t : TypeId) (e : Sh) (x : e.El) (v : Value) (hx : ∀ W, e.Ow W [] x [v]) : Own (w.alloc (.cells #[v, v] t)) w.heap.size (w.alloc (.cells #[v, v] t)).heap.size (.row t e) [x, x] [.slice (some ⟨w.heap.size, 0, none⟩) 2 2] := by
  have s : (w.alloc (.cells #[v, v] t)).heap.size = w.heap.size + 1 := by simp
  rw [s]
  exact own_two (cx := [v]) (cy := [v]) (al_at w (.cells #[v, v] t)) (hx _) (hx _)
set_option maxHeartbeats 8000000 in
theorem iNewWorld (a b : Int) (w : World) : Calls Try.prog 5 #[.int .i64 a, .int .i64 b] w fun e w' => ∃ N : Array Value, e = .returned (.agg N) ∧ Own w' w.heap.size w'.heap.size (shWR 50) (nwV a b) N.toList ∧ Below w.heap.size w w' := by
  have HCB : Hid (∀ W, Calls Try.prog 12 #[.agg #[.bool false, .bool false, .bool false], .slice none 0 0] W fun e w' => ∃ N : Array Value, e = .returned (.agg N) ∧ NetP 50 w' W.heap.size [] [false, false, false] N ∧ Below W.heap.size W w') := fun W => iCarriedBy [false, false, false] [] (.slice none 0 0) W 0 ⟨none, 0, rfl, ⟨Nat.le_refl _, by decide⟩, fun _ => rfl, 0, 0, fun h => absurd rfl h, fun i h => by simp at h⟩ (Nat.zero_le _) rfl (by simp) (by simp) (by simp)
  have HWA : Hid (Below w.heap.size w (w.alloc (.cells #[.int .i64 0, .slice none 0 0, .int .i64 0, .slice none 0 0, .slice none 0 0, .slice none 0 0, .slice none 0 0, .slice none 0 0] 32)) ∧ (w.alloc (.cells #[.int .i64 0, .slice none 0 0, .int .i64 0, .slice none 0 0, .slice none 0 0, .slice none 0 0, .slice none 0 0, .slice none 0 0] 32)).heap.size = w.heap.size + 1 ∧ (∀ o, (w.alloc (.cells #[.int .i64 0, .slice none 0 0, .int .i64 0, .slice none 0 0, .slice none 0 0, .slice none 0 0, .slice none 0 0, .slice none 0 0] 32)).cell? ⟨w.heap.size, o, none⟩ = (#[.int .i64 0, .slice none 0 0, .int .i64 0, .slice none 0 0, .slice none 0 0, .slice none 0 0, .slice none 0 0, .slice none 0 0] : Array Value)[o]?) ∧ (∀ o, (w.alloc (.cells #[.int .i64 0, .slice none 0 0, .int .i64 0, .slice none 0 0, .slice none 0 0, .slice none 0 0, .slice none 0 0, .slice none 0 0] 32)).frozen? ⟨w.heap.size, o, none⟩ = false)) := ⟨((Below.refl _ _).alloc (Nat.le_refl _) _), by simp, fun o => by simp [go_sem], fun o => by simp [go_sem]⟩
  go_enter Try.func5, Try.ntmps5
  go_upto_region 1 with fail
  generalize hWW : (w.alloc (.cells #[.int .i64 0, .slice none 0 0, .int .i64 0, .slice none 0 0, .slice none 0 0, .slice none 0 0, .slice none 0 0, .slice none 0 0] 32)) = W1 at HWA ⊢
  clear hWW
  obtain ⟨hb, hsz, kR, fR⟩ := HWA.out
  clear HWA
  have HB : Hid (Below w.heap.size w W1) := hb
  have zR : w.heap.size < W1.heap.size := by omega
  clear hb hsz
  go_upto_region 3 with fail
  have kK : ∀ o, (W1.alloc (.cells #[.int .i64 a, .int .i64 b] 2)).cell? ⟨W1.heap.size, o, none⟩ = (#[.int .i64 a, .int .i64 b] : Array Value)[o]? := bx_al W1 _ _
  have hb : Below W1.heap.size W1 (W1.alloc (.cells #[.int .i64 a, .int .i64 b] 2)) := (Below.refl _ _).alloc (Nat.le_refl _) _
  have hzk : W1.heap.size < (W1.alloc (.cells #[.int .i64 a, .int .i64 b] 2)).heap.size := by simp
  generalize hWW : (W1.alloc (.cells #[.int .i64 a, .int .i64 b] 2)) = W2 at kK hb hzk ⊢
  clear hWW
  obtain ⟨qk, hqk⟩ : ∃ q, q = W1.heap.size := ⟨_, rfl⟩
  have zRk : w.heap.size < qk := by rw [hqk]; exact zR
  replace kR := bx_below kR zR hb
  replace fR := bxF fR hb zR
  replace zR := Nat.lt_of_lt_of_le zR hb.size
  replace HB : Hid (Below w.heap.size w W2) := HB.out.trans (hb.mono HB.out.size)
  rw [← hqk] at kK hzk ⊢
  clear hb hqk
  obtain ⟨m, hm⟩ : ∃ q, q = W2.heap.size := ⟨_, rfl⟩
  rw [← hm] at hzk
  have zm : m ≤ W2.heap.size := by omega
  clear hm zR
  go_loopw [5, 13] (fun v i wr => ∃ z : Int, i = .int .i64 z ∧ (z = 0 ∨ z = 1 ∨ z = 2) ∧ (∀ o, wr.cell? ⟨w.heap.size, o, none⟩ = (#[.int .i64 0, .slice none 0 0, .int .i64 0, .slice none 0 0, .slice none 0 0, .slice none 0 0, .slice none 0 0, .slice none 0 0] : Array Value)[o]?) ∧ (∀ o, wr.frozen? ⟨w.heap.size, o, none⟩ = false) ∧ (∀ o, wr.cell? ⟨qk, o, none⟩ = (#[.int .i64 a, .int .i64 b] : Array Value)[o]?) ∧ (∃ va vc, v = .slice va (nl2 a b z).length vc) ∧ Hid (Own wr m wr.heap.size shConnsO (nl2 a b z) [v]) ∧ (1 ≤ z → keyN a = true) ∧ (2 ≤ z → keyN b = true) ∧ Hid (Below w.heap.size w wr) ∧ m ≤ wr.heap.size) (fun _ i _ => 2 - (intOf i).toNat)
  case atStart => exact ⟨0, rfl, Or.inl rfl, kR, fR, kK, ⟨none, 0, rfl⟩, ⟨[], Or.inl ⟨rfl, rfl, rfl⟩, by simp, by simp⟩, by simp, by simp, HB, zm⟩
  case round =>
    clear kR fR kK HB zm
    obtain ⟨z, rfl, hz, kR, fR, kK, ⟨va, vc, rfl⟩, X1, hka, hkb, HB, zm⟩ := hrel
    have zR : w.heap.size < wr.heap.size := by omega
    have zK : qk < wr.heap.size := by omega
    obtain ⟨t1, ht1⟩ : ∃ q, q = wr.heap.size := ⟨_, rfl⟩
    have lX1 : t1 ≤ wr.heap.size := by omega
    have hmt : m ≤ t1 := by omega
    rcases hz with rfl | rfl | rfl
    · replace X1 : Hid (Own wr m t1 shConnsO [] [.slice va 0 vc]) := by rw [ht1]; exact X1.out
      clear ht1
      clear hka
      clear hkb
      have e0 : (nl2 a b 0).length = 0 := rfl
      rw [e0]
      clear e0
      by_cases hka : keyN a = true
      case neg =>
        replace hka : keyN a = false := by simpa using hka
        obtain ⟨NA, hNA⟩ : ∃ A : Array Value, A = nc18 3 0 0 0 := ⟨_, rfl⟩
        have HZNA : Hid (NA.size = 18) := by show _ = _; rw [hNA]; rfl
        have INA : Hid ((Try.prog.info? 44).map (·.size) = some NA.size) := by show _ = _; rw [HZNA.out]; exact info_C18
        have ONNA : Hid (NA.all (·.oneCell') = true) := by show _ = _; rw [hNA]; exact nc_one _ _ _ _
        have cNA : NA[0]? = some (.int .i64 3) := by rw [hNA]; rfl
        have HCNA : Hid (∀ W, Calls Try.prog 11 #[.int .i64 0, .int .i64 a] W fun e w' => e = .returned (.agg NA) ∧ Below W.heap.size W w') := fun W => by rw [hNA, ← newA_no 0 hka]; exact iNewConn 0 a W
        clear hNA
        have hV : nwV a b = badW 3 := by unfold nwV; rw [if_pos hka]
        have HV : Hid _ := hV
        clear hV hka
        obtain ⟨N, hN⟩ : ∃ N : Array Value, N = #[.int .i64 3, .slice none 0 0, .int .i64 0, .slice none 0 0, .slice none 0 0, .slice none 0 0, .slice none 0 0, .slice none 0 0] := ⟨_, rfl⟩
        have HN : Hid _ := hN
        have HNZ : Hid (N.size = 8) := by show _ = _; rw [hN]; rfl
        have HIN : Hid ((Try.prog.info? 32).map (·.size) = some N.size) := by show _ = _; rw [HNZ.out]; exact info_WRn
        have HONE : Hid (N.all (·.oneCell') = true) := by show _ = _; rw [hN]; simp [Value.oneCell']
        clear hN
        go_wp2_with fail
        refine (HCNA.out _).mono ?_
        rintro e w2 ⟨rfl, hb⟩
        replace kR := bx_below kR zR hb
        replace fR := bxF fR hb zR
        replace zR := Nat.lt_of_lt_of_le zR hb.size
        replace kK := bx_below kK zK hb
        replace zK := Nat.lt_of_lt_of_le zK hb.size
        replace X1 : Hid (Own w2 m t1 shConnsO [] [.slice va 0 vc]) := Own.below X1.out (by omega) hb
        replace lX1 : t1 ≤ w2.heap.size := Nat.le_trans lX1 hb.size
        replace HB : Hid (Below w.heap.size w w2) := HB.out.trans (hb.mono HB.out.size)
        clear hb
        clear HCNA
        have HTH : Hid ((w2.alloc (.cells #[.int .i64 0, .int .i64 0, .int .i64 0, .int .i64 0, .bool false, .bool false, .slice none 0 0, .bool false, .int .i64 0, .bool false, .slice none 0 0, .slice none 0 0, .int .i64 0, .int .i64 0, .slice none 0 0, .slice none 0 0, .slice none 0 0, .bool false] 44)).there w2.heap.size 0 NA.size) := bx_there (bx_al _ _ _) (fx_al _ _ _) (by rw [HZNA.out]; rfl)
        have HWN : Hid (Below w2.heap.size w2 ((w2.alloc (.cells #[.int .i64 0, .int .i64 0, .int .i64 0, .int .i64 0, .bool false, .bool false, .slice none 0 0, .bool false, .int .i64 0, .bool false, .slice none 0 0, .slice none 0 0, .int .i64 0, .int .i64 0, .slice none 0 0, .slice none 0 0, .slice none 0 0, .bool false] 44)).setCells w2.heap.size 0 NA.toList) ∧ w2.heap.size < ((w2.alloc (.cells #[.int .i64 0, .int .i64 0, .int .i64 0, .int .i64 0, .bool false, .bool false, .slice none 0 0, .bool false, .int .i64 0, .bool false, .slice none 0 0, .slice none 0 0, .int .i64 0, .int .i64 0, .slice none 0 0, .slice none 0 0, .slice none 0 0, .bool false] 44)).setCells w2.heap.size 0 NA.toList).heap.size ∧ (∀ o, ((w2.alloc (.cells #[.int .i64 0, .int .i64 0, .int .i64 0, .int .i64 0, .bool false, .bool false, .slice none 0 0, .bool false, .int .i64 0, .bool false, .slice none 0 0, .slice none 0 0, .int .i64 0, .int .i64 0, .slice none 0 0, .slice none 0 0, .slice none 0 0, .bool false] 44)).setCells w2.heap.size 0 NA.toList).cell? ⟨w2.heap.size, o, none⟩ = NA[o]?) ∧ (∀ o, ((w2.alloc (.cells #[.int .i64 0, .int .i64 0, .int .i64 0, .int .i64 0, .bool false, .bool false, .slice none 0 0, .bool false, .int .i64 0, .bool false, .slice none 0 0, .slice none 0 0, .int .i64 0, .int .i64 0, .slice none 0 0, .slice none 0 0, .slice none 0 0, .bool false] 44)).setCells w2.heap.size 0 NA.toList).frozen? ⟨w2.heap.size, o, none⟩ = false)) := ⟨setCells_below (Nat.le_refl _) _ _ _ _ ((Below.refl _ _).alloc (Nat.le_refl _) _), by rw [setCells_size]; simp, bx_setCells (bx_al w2 _ _) (by rw [HZNA.out]; rfl), fx_sets (fx_al _ _ _)⟩
        go_upto_region 6 with (first | (refine wpList_store_mid rfl 44 _ _ rfl _ _ NA (by rfl) (by rfl) HTH.out INA.out ONNA.out ?_))
        generalize hWW : ((w2.alloc (.cells #[.int .i64 0, .int .i64 0, .int .i64 0, .int .i64 0, .bool false, .bool false, .slice none 0 0, .bool false, .int .i64 0, .bool false, .slice none 0 0, .slice none 0 0, .int .i64 0, .int .i64 0, .slice none 0 0, .slice none 0 0, .slice none 0 0, .bool false] 44)).setCells w2.heap.size 0 NA.toList) = w3 at HWN ⊢
        clear hWW HTH
        obtain ⟨hb, zA, kA, fA⟩ := HWN.out
        clear HWN
        obtain ⟨bA, hq⟩ : ∃ q, q = w2.heap.size := ⟨_, rfl⟩
        rw [← hq] at zA kA fA ⊢
        have lRA : w.heap.size < bA := by rw [hq]; exact zR
        have lKA : qk < bA := by rw [hq]; exact zK
        have lX1A : t1 ≤ bA := by omega
        have lwA : w.heap.size ≤ bA := by rw [hq]; exact HB.out.size
        clear hq
        replace kR := bx_below kR zR hb
        replace fR := bxF fR hb zR
        replace zR := Nat.lt_of_lt_of_le zR hb.size
        replace kK := bx_below kK zK hb
        replace zK := Nat.lt_of_lt_of_le zK hb.size
        replace X1 : Hid (Own w3 m t1 shConnsO [] [.slice va 0 vc]) := Own.below X1.out (by omega) hb
        replace lX1 : t1 ≤ w3.heap.size := Nat.le_trans lX1 hb.size
        replace HB : Hid (Below w.heap.size w w3) := HB.out.trans (hb.mono HB.out.size)
        clear hb
        have HTH : Hid (w3.there (w.heap.size) 0 N.size) := bx_there kR fR (by rw [HNZ.out]; rfl)
        have HKR : Hid (∀ o, (w3.setCells (w.heap.size) 0 N.toList).cell? ⟨w.heap.size, o, none⟩ = N[o]?) := bx_setCells kR (by rw [HNZ.out]; rfl)
        go_wp2_with (first | (refine wpList_store_mid rfl 32 _ _ rfl _ _ N (by rfl) (by rw [HN.out]; rfl) HTH.out HIN.out HONE.out ?_))
        refine bodyPost_ret (results_box Try.results5 _ _ _ N _ (by rfl) HKR.out Try.underlying32 rfl HIN.out) rfl ⟨N, rfl, ?_, setCells_below (by omega) _ _ _ _ HB.out⟩
        rw [setCells_size]
        exact Own.mono (Own.keep (by have h := own_badW 50 w3 (w.heap.size + 1) w3.heap.size (q := 3) (by decide) (by omega); rw [HN.out, HV.out]; exact h) (fun b h1 h2 => setCells_block (by omega) _ _ _)) (show w.heap.size ≤ w.heap.size + 1 by omega) (Nat.le_refl _)
      case pos =>
        obtain ⟨NA, hNA⟩ : ∃ A : Array Value, A = nc18 0 0 a (-1) := ⟨_, rfl⟩
        have HZNA : Hid (NA.size = 18) := by show _ = _; rw [hNA]; rfl
        have INA : Hid ((Try.prog.info? 44).map (·.size) = some NA.size) := by show _ = _; rw [HZNA.out]; exact info_C18
        have ONNA : Hid (NA.all (·.oneCell') = true) := by show _ = _; rw [hNA]; exact nc_one _ _ _ _
        have cNA : NA[0]? = some (.int .i64 0) := by rw [hNA]; rfl
        have HRNA : Hid (∀ (W : World) (qb : Nat), (∀ o, W.cell? ⟨qb, o, none⟩ = NA[o]?) → W.rangeAt qb 1 [.int .i64 0, .int .i64 a, .int .i64 0, .bool false, .bool false, .slice none 0 0, .bool false, .int .i64 0, .bool false, .slice none 0 0, .slice none 0 0, .int .i64 (-1), .int .i64 0, .slice none 0 0]) := fun W qb hk => by rw [hNA] at hk; exact nc_range hk
        have HCNA : Hid (∀ W, Calls Try.prog 11 #[.int .i64 0, .int .i64 a] W fun e w' => e = .returned (.agg NA) ∧ Below W.heap.size W w') := fun W => by rw [hNA, ← newA_yes (s := 0) hka (by decide)]; exact iNewConn 0 a W
        clear hNA
        have HWK : Hid ((Lit.int .i64 a).wf = true) := key_wf hka
        go_wp2_with fail
        refine (HCNA.out _).mono ?_
        rintro e w2 ⟨rfl, hb⟩
        replace kR := bx_below kR zR hb
        replace fR := bxF fR hb zR
        replace zR := Nat.lt_of_lt_of_le zR hb.size
        replace kK := bx_below kK zK hb
        replace zK := Nat.lt_of_lt_of_le zK hb.size
        replace X1 : Hid (Own w2 m t1 shConnsO [] [.slice va 0 vc]) := Own.below X1.out (by omega) hb
        replace lX1 : t1 ≤ w2.heap.size := Nat.le_trans lX1 hb.size
        replace HB : Hid (Below w.heap.size w w2) := HB.out.trans (hb.mono HB.out.size)
        clear hb
        clear HCNA
        have HTH : Hid ((w2.alloc (.cells #[.int .i64 0, .int .i64 0, .int .i64 0, .int .i64 0, .bool false, .bool false, .slice none 0 0, .bool false, .int .i64 0, .bool false, .slice none 0 0, .slice none 0 0, .int .i64 0, .int .i64 0, .slice none 0 0, .slice none 0 0, .slice none 0 0, .bool false] 44)).there w2.heap.size 0 NA.size) := bx_there (bx_al _ _ _) (fx_al _ _ _) (by rw [HZNA.out]; rfl)
        have HWN : Hid (Below w2.heap.size w2 ((w2.alloc (.cells #[.int .i64 0, .int .i64 0, .int .i64 0, .int .i64 0, .bool false, .bool false, .slice none 0 0, .bool false, .int .i64 0, .bool false, .slice none 0 0, .slice none 0 0, .int .i64 0, .int .i64 0, .slice none 0 0, .slice none 0 0, .slice none 0 0, .bool false] 44)).setCells w2.heap.size 0 NA.toList) ∧ w2.heap.size < ((w2.alloc (.cells #[.int .i64 0, .int .i64 0, .int .i64 0, .int .i64 0, .bool false, .bool false, .slice none 0 0, .bool false, .int .i64 0, .bool false, .slice none 0 0, .slice none 0 0, .int .i64 0, .int .i64 0, .slice none 0 0, .slice none 0 0, .slice none 0 0, .bool false] 44)).setCells w2.heap.size 0 NA.toList).heap.size ∧ (∀ o, ((w2.alloc (.cells #[.int .i64 0, .int .i64 0, .int .i64 0, .int .i64 0, .bool false, .bool false, .slice none 0 0, .bool false, .int .i64 0, .bool false, .slice none 0 0, .slice none 0 0, .int .i64 0, .int .i64 0, .slice none 0 0, .slice none 0 0, .slice none 0 0, .bool false] 44)).setCells w2.heap.size 0 NA.toList).cell? ⟨w2.heap.size, o, none⟩ = NA[o]?) ∧ (∀ o, ((w2.alloc (.cells #[.int .i64 0, .int .i64 0, .int .i64 0, .int .i64 0, .bool false, .bool false, .slice none 0 0, .bool false, .int .i64 0, .bool false, .slice none 0 0, .slice none 0 0, .int .i64 0, .int .i64 0, .slice none 0 0, .slice none 0 0, .slice none 0 0, .bool false] 44)).setCells w2.heap.size 0 NA.toList).frozen? ⟨w2.heap.size, o, none⟩ = false)) := ⟨setCells_below (Nat.le_refl _) _ _ _ _ ((Below.refl _ _).alloc (Nat.le_refl _) _), by rw [setCells_size]; simp, bx_setCells (bx_al w2 _ _) (by rw [HZNA.out]; rfl), fx_sets (fx_al _ _ _)⟩
        go_upto_region 6 with (first | (refine wpList_store_mid rfl 44 _ _ rfl _ _ NA (by rfl) (by rfl) HTH.out INA.out ONNA.out ?_))
        generalize hWW : ((w2.alloc (.cells #[.int .i64 0, .int .i64 0, .int .i64 0, .int .i64 0, .bool false, .bool false, .slice none 0 0, .bool false, .int .i64 0, .bool false, .slice none 0 0, .slice none 0 0, .int .i64 0, .int .i64 0, .slice none 0 0, .slice none 0 0, .slice none 0 0, .bool false] 44)).setCells w2.heap.size 0 NA.toList) = w3 at HWN ⊢
        clear hWW HTH
        obtain ⟨hb, zA, kA, fA⟩ := HWN.out
        clear HWN
        obtain ⟨bA, hq⟩ : ∃ q, q = w2.heap.size := ⟨_, rfl⟩
        rw [← hq] at zA kA fA ⊢
        have lRA : w.heap.size < bA := by rw [hq]; exact zR
        have lKA : qk < bA := by rw [hq]; exact zK
        have lX1A : t1 ≤ bA := by omega
        have lwA : w.heap.size ≤ bA := by rw [hq]; exact HB.out.size
        clear hq
        replace kR := bx_below kR zR hb
        replace fR := bxF fR hb zR
        replace zR := Nat.lt_of_lt_of_le zR hb.size
        replace kK := bx_below kK zK hb
        replace zK := Nat.lt_of_lt_of_le zK hb.size
        replace X1 : Hid (Own w3 m t1 shConnsO [] [.slice va 0 vc]) := Own.below X1.out (by omega) hb
        replace lX1 : t1 ≤ w3.heap.size := Nat.le_trans lX1 hb.size
        replace HB : Hid (Below w.heap.size w w3) := HB.out.trans (hb.mono HB.out.size)
        clear hb
        have HGA : Hid (w3.rangeAt bA 1 [.int .i64 0, .int .i64 a, .int .i64 0, .bool false, .bool false, .slice none 0 0, .bool false, .int .i64 0, .bool false, .slice none 0 0, .slice none 0 0, .int .i64 (-1), .int .i64 0, .slice none 0 0]) := HRNA.out _ _ kA
        have HI14 : Hid ((Try.prog.info? 42).map (·.size) = some [Value.int .i64 0, .int .i64 a, .int .i64 0, .bool false, .bool false, .slice none 0 0, .bool false, .int .i64 0, .bool false, .slice none 0 0, .slice none 0 0, .int .i64 (-1), .int .i64 0, .slice none 0 0].length) := info_C14
        have HE1 : Hid (Own w3 w3.heap.size w3.heap.size shConnO (nconn 0 a (-1)) [.int .i64 0, .int .i64 a, .int .i64 0, .bool false, .bool false, .slice none 0 0, .bool false, .int .i64 0, .bool false, .slice none 0 0, .slice none 0 0, .int .i64 (-1), .int .i64 0, .slice none 0 0]) := ⟨[], nconn_ow _ (by decide) HWK.out, by simp, by simp⟩
        go_upto_region 8 with fail
        clear kA fA
        go_upto_region 9 with (first | (refine wpList_load_mid rfl 42 _ rfl _ _ (by rfl) [.int .i64 0, .int .i64 a, .int .i64 0, .bool false, .bool false, .slice none 0 0, .bool false, .int .i64 0, .bool false, .slice none 0 0, .slice none 0 0, .int .i64 (-1), .int .i64 0, .slice none 0 0] _ HGA.out Try.underlying42 rfl HI14.out ?_) | (at_builtin; go_must (refine app_elem w3 rfl _ _ 23 42 rfl shConnO (.agg #[.int .i64 0, .int .i64 0, .int .i64 0, .bool false, .bool false, .slice none 0 0, .bool false, .int .i64 0, .bool false, .slice none 0 0, .slice none 0 0, .int .i64 0, .int .i64 0, .slice none 0 0]) 168 Try.underlying23 info_C14y rfl (by decide) (by decide) m t1 w3.heap.size w3.heap.size [] (.slice va 0 vc) (by rfl) (by rfl) X1.out (nconn 0 a (-1)) [.int .i64 0, .int .i64 a, .int .i64 0, .bool false, .bool false, .slice none 0 0, .bool false, .int .i64 0, .bool false, .slice none 0 0, .slice none 0 0, .int .i64 (-1), .int .i64 0, .slice none 0 0] HE1.out hmt lX1 (Nat.le_refl _) (by simp) (by omega) ?_; intro v3 w4 ho3 hb3 hk3 hs3; have HO3 : Hid (Own w4 m w4.heap.size shConnsO [nconn 0 a (-1)] [v3]) := ho3; replace kR := bxC kR hb3 (show w.heap.size < m by omega); replace fR := fxC fR hb3 (show w.heap.size < m by omega); replace kK := bxC kK hb3 (show qk < m by omega); replace HB : Hid (Below w.heap.size w w4) := HB.out.trans (hb3.mono (show w.heap.size ≤ m by omega)); have zm4 : m ≤ w4.heap.size := (by omega); obtain ⟨va3, vc3, hv3⟩ := row_form (ho3.rd (Nat.le_refl _)); simp only [List.cons.injEq, and_true, List.length_append, List.length_cons, List.length_nil] at hv3; subst hv3; clear ho3 hb3 hk3 hs3 X1)))
        go_wp2_with fail
        go_roundw
        case rel => exact ⟨1, by go_num, by omega, kR, fR, kK, ⟨va3, vc3, rfl⟩, HO3, fun _ => hka, fun h => absurd h (by decide), HB, zm4⟩
        case measure => simp [intOf]
    · replace X1 : Hid (Own wr m t1 shConnsO [nconn 0 a (-1)] [.slice va 1 vc]) := by rw [ht1]; exact X1.out
      clear ht1
      replace hka : keyN a = true := hka (by omega)
      clear hkb
      have e0 : (nl2 a b 1).length = 1 := rfl
      rw [e0]
      clear e0
      by_cases hkb : keyN b = true
      case neg =>
        replace hkb : keyN b = false := by simpa using hkb
        obtain ⟨NA, hNA⟩ : ∃ A : Array Value, A = nc18 3 0 0 0 := ⟨_, rfl⟩
        have HZNA : Hid (NA.size = 18) := by show _ = _; rw [hNA]; rfl
        have INA : Hid ((Try.prog.info? 44).map (·.size) = some NA.size) := by show _ = _; rw [HZNA.out]; exact info_C18
        have ONNA : Hid (NA.all (·.oneCell') = true) := by show _ = _; rw [hNA]; exact nc_one _ _ _ _
        have cNA : NA[0]? = some (.int .i64 3) := by rw [hNA]; rfl
        have HCNA : Hid (∀ W, Calls Try.prog 11 #[.int .i64 1, .int .i64 b] W fun e w' => e = .returned (.agg NA) ∧ Below W.heap.size W w') := fun W => by rw [hNA, ← newA_no 1 hkb]; exact iNewConn 1 b W
        clear hNA
        have hV : nwV a b = badW 3 := by unfold nwV; rw [if_neg (by simp [hka]), if_pos hkb]
        have HV : Hid _ := hV
        clear hV hkb hka
        obtain ⟨N, hN⟩ : ∃ N : Array Value, N = #[.int .i64 3, .slice none 0 0, .int .i64 0, .slice none 0 0, .slice none 0 0, .slice none 0 0, .slice none 0 0, .slice none 0 0] := ⟨_, rfl⟩
        have HN : Hid _ := hN
        have HNZ : Hid (N.size = 8) := by show _ = _; rw [hN]; rfl
        have HIN : Hid ((Try.prog.info? 32).map (·.size) = some N.size) := by show _ = _; rw [HNZ.out]; exact info_WRn
        have HONE : Hid (N.all (·.oneCell') = true) := by show _ = _; rw [hN]; simp [Value.oneCell']
        clear hN
        go_wp2_with fail
        refine (HCNA.out _).mono ?_
        rintro e w2 ⟨rfl, hb⟩
        replace kR := bx_below kR zR hb
        replace fR := bxF fR hb zR
        replace zR := Nat.lt_of_lt_of_le zR hb.size
        replace kK := bx_below kK zK hb
        replace zK := Nat.lt_of_lt_of_le zK hb.size
        replace X1 : Hid (Own w2 m t1 shConnsO [nconn 0 a (-1)] [.slice va 1 vc]) := Own.below X1.out (by omega) hb
        replace lX1 : t1 ≤ w2.heap.size := Nat.le_trans lX1 hb.size
        replace HB : Hid (Below w.heap.size w w2) := HB.out.trans (hb.mono HB.out.size)
        clear hb
        clear HCNA
        have HTH : Hid ((w2.alloc (.cells #[.int .i64 0, .int .i64 0, .int .i64 0, .int .i64 0, .bool false, .bool false, .slice none 0 0, .bool false, .int .i64 0, .bool false, .slice none 0 0, .slice none 0 0, .int .i64 0, .int .i64 0, .slice none 0 0, .slice none 0 0, .slice none 0 0, .bool false] 44)).there w2.heap.size 0 NA.size) := bx_there (bx_al _ _ _) (fx_al _ _ _) (by rw [HZNA.out]; rfl)
        have HWN : Hid (Below w2.heap.size w2 ((w2.alloc (.cells #[.int .i64 0, .int .i64 0, .int .i64 0, .int .i64 0, .bool false, .bool false, .slice none 0 0, .bool false, .int .i64 0, .bool false, .slice none 0 0, .slice none 0 0, .int .i64 0, .int .i64 0, .slice none 0 0, .slice none 0 0, .slice none 0 0, .bool false] 44)).setCells w2.heap.size 0 NA.toList) ∧ w2.heap.size < ((w2.alloc (.cells #[.int .i64 0, .int .i64 0, .int .i64 0, .int .i64 0, .bool false, .bool false, .slice none 0 0, .bool false, .int .i64 0, .bool false, .slice none 0 0, .slice none 0 0, .int .i64 0, .int .i64 0, .slice none 0 0, .slice none 0 0, .slice none 0 0, .bool false] 44)).setCells w2.heap.size 0 NA.toList).heap.size ∧ (∀ o, ((w2.alloc (.cells #[.int .i64 0, .int .i64 0, .int .i64 0, .int .i64 0, .bool false, .bool false, .slice none 0 0, .bool false, .int .i64 0, .bool false, .slice none 0 0, .slice none 0 0, .int .i64 0, .int .i64 0, .slice none 0 0, .slice none 0 0, .slice none 0 0, .bool false] 44)).setCells w2.heap.size 0 NA.toList).cell? ⟨w2.heap.size, o, none⟩ = NA[o]?) ∧ (∀ o, ((w2.alloc (.cells #[.int .i64 0, .int .i64 0, .int .i64 0, .int .i64 0, .bool false, .bool false, .slice none 0 0, .bool false, .int .i64 0, .bool false, .slice none 0 0, .slice none 0 0, .int .i64 0, .int .i64 0, .slice none 0 0, .slice none 0 0, .slice none 0 0, .bool false] 44)).setCells w2.heap.size 0 NA.toList).frozen? ⟨w2.heap.size, o, none⟩ = false)) := ⟨setCells_below (Nat.le_refl _) _ _ _ _ ((Below.refl _ _).alloc (Nat.le_refl _) _), by rw [setCells_size]; simp, bx_setCells (bx_al w2 _ _) (by rw [HZNA.out]; rfl), fx_sets (fx_al _ _ _)⟩
        go_upto_region 6 with (first | (refine wpList_store_mid rfl 44 _ _ rfl _ _ NA (by rfl) (by rfl) HTH.out INA.out ONNA.out ?_))
        generalize hWW : ((w2.alloc (.cells #[.int .i64 0, .int .i64 0, .int .i64 0, .int .i64 0, .bool false, .bool false, .slice none 0 0, .bool false, .int .i64 0, .bool false, .slice none 0 0, .slice none 0 0, .int .i64 0, .int .i64 0, .slice none 0 0, .slice none 0 0, .slice none 0 0, .bool false] 44)).setCells w2.heap.size 0 NA.toList) = w3 at HWN ⊢
        clear hWW HTH
        obtain ⟨hb, zA, kA, fA⟩ := HWN.out
        clear HWN
        obtain ⟨bA, hq⟩ : ∃ q, q = w2.heap.size := ⟨_, rfl⟩
        rw [← hq] at zA kA fA ⊢
        have lRA : w.heap.size < bA := by rw [hq]; exact zR
        have lKA : qk < bA := by rw [hq]; exact zK
        have lX1A : t1 ≤ bA := by omega
        have lwA : w.heap.size ≤ bA := by rw [hq]; exact HB.out.size
        clear hq
        replace kR := bx_below kR zR hb
        replace fR := bxF fR hb zR
        replace zR := Nat.lt_of_lt_of_le zR hb.size
        replace kK := bx_below kK zK hb
        replace zK := Nat.lt_of_lt_of_le zK hb.size
        replace X1 : Hid (Own w3 m t1 shConnsO [nconn 0 a (-1)] [.slice va 1 vc]) := Own.below X1.out (by omega) hb
        replace lX1 : t1 ≤ w3.heap.size := Nat.le_trans lX1 hb.size
        replace HB : Hid (Below w.heap.size w w3) := HB.out.trans (hb.mono HB.out.size)
        clear hb
        have HTH : Hid (w3.there (w.heap.size) 0 N.size) := bx_there kR fR (by rw [HNZ.out]; rfl)
        have HKR : Hid (∀ o, (w3.setCells (w.heap.size) 0 N.toList).cell? ⟨w.heap.size, o, none⟩ = N[o]?) := bx_setCells kR (by rw [HNZ.out]; rfl)
        go_wp2_with (first | (refine wpList_store_mid rfl 32 _ _ rfl _ _ N (by rfl) (by rw [HN.out]; rfl) HTH.out HIN.out HONE.out ?_))
        refine bodyPost_ret (results_box Try.results5 _ _ _ N _ (by rfl) HKR.out Try.underlying32 rfl HIN.out) rfl ⟨N, rfl, ?_, setCells_below (by omega) _ _ _ _ HB.out⟩
        rw [setCells_size]
        exact Own.mono (Own.keep (by have h := own_badW 50 w3 (w.heap.size + 1) w3.heap.size (q := 3) (by decide) (by omega); rw [HN.out, HV.out]; exact h) (fun b h1 h2 => setCells_block (by omega) _ _ _)) (show w.heap.size ≤ w.heap.size + 1 by omega) (Nat.le_refl _)
      case pos =>
        obtain ⟨NA, hNA⟩ : ∃ A : Array Value, A = nc18 0 1 b (-1) := ⟨_, rfl⟩
        have HZNA : Hid (NA.size = 18) := by show _ = _; rw [hNA]; rfl
        have INA : Hid ((Try.prog.info? 44).map (·.size) = some NA.size) := by show _ = _; rw [HZNA.out]; exact info_C18
        have ONNA : Hid (NA.all (·.oneCell') = true) := by show _ = _; rw [hNA]; exact nc_one _ _ _ _
        have cNA : NA[0]? = some (.int .i64 0) := by rw [hNA]; rfl
        have HRNA : Hid (∀ (W : World) (qb : Nat), (∀ o, W.cell? ⟨qb, o, none⟩ = NA[o]?) → W.rangeAt qb 1 [.int .i64 1, .int .i64 b, .int .i64 0, .bool false, .bool false, .slice none 0 0, .bool false, .int .i64 0, .bool false, .slice none 0 0, .slice none 0 0, .int .i64 (-1), .int .i64 0, .slice none 0 0]) := fun W qb hk => by rw [hNA] at hk; exact nc_range hk
        have HCNA : Hid (∀ W, Calls Try.prog 11 #[.int .i64 1, .int .i64 b] W fun e w' => e = .returned (.agg NA) ∧ Below W.heap.size W w') := fun W => by rw [hNA, ← newA_yes (s := 1) hkb (by decide)]; exact iNewConn 1 b W
        clear hNA
        have HWK : Hid ((Lit.int .i64 b).wf = true) := key_wf hkb
        go_wp2_with fail
        refine (HCNA.out _).mono ?_
        rintro e w2 ⟨rfl, hb⟩
        replace kR := bx_below kR zR hb
        replace fR := bxF fR hb zR
        replace zR := Nat.lt_of_lt_of_le zR hb.size
        replace kK := bx_below kK zK hb
        replace zK := Nat.lt_of_lt_of_le zK hb.size
        replace X1 : Hid (Own w2 m t1 shConnsO [nconn 0 a (-1)] [.slice va 1 vc]) := Own.below X1.out (by omega) hb
        replace lX1 : t1 ≤ w2.heap.size := Nat.le_trans lX1 hb.size
        replace HB : Hid (Below w.heap.size w w2) := HB.out.trans (hb.mono HB.out.size)
        clear hb
        clear HCNA
        have HTH : Hid ((w2.alloc (.cells #[.int .i64 0, .int .i64 0, .int .i64 0, .int .i64 0, .bool false, .bool false, .slice none 0 0, .bool false, .int .i64 0, .bool false, .slice none 0 0, .slice none 0 0, .int .i64 0, .int .i64 0, .slice none 0 0, .slice none 0 0, .slice none 0 0, .bool false] 44)).there w2.heap.size 0 NA.size) := bx_there (bx_al _ _ _) (fx_al _ _ _) (by rw [HZNA.out]; rfl)
        have HWN : Hid (Below w2.heap.size w2 ((w2.alloc (.cells #[.int .i64 0, .int .i64 0, .int .i64 0, .int .i64 0, .bool false, .bool false, .slice none 0 0, .bool false, .int .i64 0, .bool false, .slice none 0 0, .slice none 0 0, .int .i64 0, .int .i64 0, .slice none 0 0, .slice none 0 0, .slice none 0 0, .bool false] 44)).setCells w2.heap.size 0 NA.toList) ∧ w2.heap.size < ((w2.alloc (.cells #[.int .i64 0, .int .i64 0, .int .i64 0, .int .i64 0, .bool false, .bool false, .slice none 0 0, .bool false, .int .i64 0, .bool false, .slice none 0 0, .slice none 0 0, .int .i64 0, .int .i64 0, .slice none 0 0, .slice none 0 0, .slice none 0 0, .bool false] 44)).setCells w2.heap.size 0 NA.toList).heap.size ∧ (∀ o, ((w2.alloc (.cells #[.int .i64 0, .int .i64 0, .int .i64 0, .int .i64 0, .bool false, .bool false, .slice none 0 0, .bool false, .int .i64 0, .bool false, .slice none 0 0, .slice none 0 0, .int .i64 0, .int .i64 0, .slice none 0 0, .slice none 0 0, .slice none 0 0, .bool false] 44)).setCells w2.heap.size 0 NA.toList).cell? ⟨w2.heap.size, o, none⟩ = NA[o]?) ∧ (∀ o, ((w2.alloc (.cells #[.int .i64 0, .int .i64 0, .int .i64 0, .int .i64 0, .bool false, .bool false, .slice none 0 0, .bool false, .int .i64 0, .bool false, .slice none 0 0, .slice none 0 0, .int .i64 0, .int .i64 0, .slice none 0 0, .slice none 0 0, .slice none 0 0, .bool false] 44)).setCells w2.heap.size 0 NA.toList).frozen? ⟨w2.heap.size, o, none⟩ = false)) := ⟨setCells_below (Nat.le_refl _) _ _ _ _ ((Below.refl _ _).alloc (Nat.le_refl _) _), by rw [setCells_size]; simp, bx_setCells (bx_al w2 _ _) (by rw [HZNA.out]; rfl), fx_sets (fx_al _ _ _)⟩
        go_upto_region 6 with (first | (refine wpList_store_mid rfl 44 _ _ rfl _ _ NA (by rfl) (by rfl) HTH.out INA.out ONNA.out ?_))
        generalize hWW : ((w2.alloc (.cells #[.int .i64 0, .int .i64 0, .int .i64 0, .int .i64 0, .bool false, .bool false, .slice none 0 0, .bool false, .int .i64 0, .bool false, .slice none 0 0, .slice none 0 0, .int .i64 0, .int .i64 0, .slice none 0 0, .slice none 0 0, .slice none 0 0, .bool false] 44)).setCells w2.heap.size 0 NA.toList) = w3 at HWN ⊢
        clear hWW HTH
        obtain ⟨hb, zA, kA, fA⟩ := HWN.out
        clear HWN
        obtain ⟨bA, hq⟩ : ∃ q, q = w2.heap.size := ⟨_, rfl⟩
        rw [← hq] at zA kA fA ⊢
        have lRA : w.heap.size < bA := by rw [hq]; exact zR
        have lKA : qk < bA := by rw [hq]; exact zK
        have lX1A : t1 ≤ bA := by omega
        have lwA : w.heap.size ≤ bA := by rw [hq]; exact HB.out.size
        clear hq
        replace kR := bx_below kR zR hb
        replace fR := bxF fR hb zR
        replace zR := Nat.lt_of_lt_of_le zR hb.size
        replace kK := bx_below kK zK hb
        replace zK := Nat.lt_of_lt_of_le zK hb.size
        replace X1 : Hid (Own w3 m t1 shConnsO [nconn 0 a (-1)] [.slice va 1 vc]) := Own.below X1.out (by omega) hb
        replace lX1 : t1 ≤ w3.heap.size := Nat.le_trans lX1 hb.size
        replace HB : Hid (Below w.heap.size w w3) := HB.out.trans (hb.mono HB.out.size)
        clear hb
        have HGA : Hid (w3.rangeAt bA 1 [.int .i64 1, .int .i64 b, .int .i64 0, .bool false, .bool false, .slice none 0 0, .bool false, .int .i64 0, .bool false, .slice none 0 0, .slice none 0 0, .int .i64 (-1), .int .i64 0, .slice none 0 0]) := HRNA.out _ _ kA
        have HI14 : Hid ((Try.prog.info? 42).map (·.size) = some [Value.int .i64 1, .int .i64 b, .int .i64 0, .bool false, .bool false, .slice none 0 0, .bool false, .int .i64 0, .bool false, .slice none 0 0, .slice none 0 0, .int .i64 (-1), .int .i64 0, .slice none 0 0].length) := info_C14
        have HE1 : Hid (Own w3 w3.heap.size w3.heap.size shConnO (nconn 1 b (-1)) [.int .i64 1, .int .i64 b, .int .i64 0, .bool false, .bool false, .slice none 0 0, .bool false, .int .i64 0, .bool false, .slice none 0 0, .slice none 0 0, .int .i64 (-1), .int .i64 0, .slice none 0 0]) := ⟨[], nconn_ow _ (by decide) HWK.out, by simp, by simp⟩
        go_upto_region 8 with fail
        clear kA fA
        go_upto_region 9 with (first | (refine wpList_load_mid rfl 42 _ rfl _ _ (by rfl) [.int .i64 1, .int .i64 b, .int .i64 0, .bool false, .bool false, .slice none 0 0, .bool false, .int .i64 0, .bool false, .slice none 0 0, .slice none 0 0, .int .i64 (-1), .int .i64 0, .slice none 0 0] _ HGA.out Try.underlying42 rfl HI14.out ?_) | (at_builtin; go_must (refine app_elem w3 rfl _ _ 23 42 rfl shConnO (.agg #[.int .i64 0, .int .i64 0, .int .i64 0, .bool false, .bool false, .slice none 0 0, .bool false, .int .i64 0, .bool false, .slice none 0 0, .slice none 0 0, .int .i64 0, .int .i64 0, .slice none 0 0]) 168 Try.underlying23 info_C14y rfl (by decide) (by decide) m t1 w3.heap.size w3.heap.size [nconn 0 a (-1)] (.slice va 1 vc) (by rfl) (by rfl) X1.out (nconn 1 b (-1)) [.int .i64 1, .int .i64 b, .int .i64 0, .bool false, .bool false, .slice none 0 0, .bool false, .int .i64 0, .bool false, .slice none 0 0, .slice none 0 0, .int .i64 (-1), .int .i64 0, .slice none 0 0] HE1.out hmt lX1 (Nat.le_refl _) (by simp) (by omega) ?_; intro v3 w4 ho3 hb3 hk3 hs3; have HO3 : Hid (Own w4 m w4.heap.size shConnsO [nconn 0 a (-1), nconn 1 b (-1)] [v3]) := ho3; replace kR := bxC kR hb3 (show w.heap.size < m by omega); replace fR := fxC fR hb3 (show w.heap.size < m by omega); replace kK := bxC kK hb3 (show qk < m by omega); replace HB : Hid (Below w.heap.size w w4) := HB.out.trans (hb3.mono (show w.heap.size ≤ m by omega)); have zm4 : m ≤ w4.heap.size := (by omega); obtain ⟨va3, vc3, hv3⟩ := row_form (ho3.rd (Nat.le_refl _)); simp only [List.cons.injEq, and_true, List.length_append, List.length_cons, List.length_nil] at hv3; subst hv3; clear ho3 hb3 hk3 hs3 X1)))
        go_wp2_with fail
        go_roundw
        case rel => exact ⟨2, by go_num, by omega, kR, fR, kK, ⟨va3, vc3, rfl⟩, HO3, fun _ => hka, fun _ => hkb, HB, zm4⟩
        case measure => simp [intOf]
    · replace X1 : Hid (Own wr m t1 shConnsO [nconn 0 a (-1), nconn 1 b (-1)] [.slice va 2 vc]) := by rw [ht1]; exact X1.out
      replace hka : keyN a = true := hka (by omega)
      replace hkb : keyN b = true := hkb (by omega)
      have hV : nwV a b = (0, [], (0, [nconn 0 a (-1), nconn 1 b (-1)], ([], [false, false, false], ()), [[], []], [false, false], ()), ()) := by unfold nwV; rw [if_neg (by simp [hka]), if_neg (by simp [hkb])]
      have HV : Hid _ := hV
      have e0 : (nl2 a b 2).length = 2 := rfl
      rw [e0]
      clear e0 hV hka hkb ht1 kK zK
      go_upto_region 10 with fail
      refine wp_region_noPanic ?_
      refine Goes.start (S := fun _ => True) (z := 7) (by kernel_rfl) ?_
      have hb : Below wr.heap.size wr wr.drew := Below.drew (Below.refl _ _)
      generalize hWW : wr.drew = w20 at hb ⊢
      clear hWW
      have HS0 : Hid (Below wr.heap.size wr w20) := hb
      replace kR := bx_below kR zR hb
      replace fR := bxF fR hb zR
      replace zR := Nat.lt_of_lt_of_le zR hb.size
      replace X1 : Hid (Own w20 m t1 shConnsO [nconn 0 a (-1), nconn 1 b (-1)] [.slice va 2 vc]) := Own.below X1.out (by omega) hb
      replace lX1 : t1 ≤ w20.heap.size := Nat.le_trans lX1 hb.size
      replace HB : Hid (Below w.heap.size w w20) := HB.out.trans (hb.mono HB.out.size)
      clear hb
      clear HS0
      refine Goes.take (i := 0) (oi := ?oi11) (x := ?vx11) ?ho11 (by kernel_rfl) (by kernel_rfl) (by kernel_rfl) (by kernel_rfl) (fun _ _ _ h => h) (Or.inl ⟨?hw11, ?hy11⟩) trivial ?rest11
      case ho11 => (simp only [List.getElem?_toArray, List.getElem?_cons_zero] <;> rfl)
      case hw11 => rfl
      case hy11 => (intro w' hSw; go_simp; (try with_reducible rfl))
      case rest11 =>
      (try simp only [Act.put, List.setIfInBounds_toArray, List.set_cons_zero, List.set_cons_succ])
      refine Goes.take (i := 1) (oi := ?oi12) (x := ?vx12) ?ho12 (by kernel_rfl) (by kernel_rfl) (by kernel_rfl) (by kernel_rfl) (fun _ _ _ h => h) (Or.inl ⟨?hw12, ?hy12⟩) trivial ?rest12
      case ho12 => (simp only [List.getElem?_toArray, List.getElem?_cons_succ, List.getElem?_cons_zero] <;> rfl)
      case hw12 => rfl
      case hy12 => (intro w' hSw; go_simp; (try with_reducible rfl))
      case rest12 =>
      (try simp only [Act.put, List.setIfInBounds_toArray, List.set_cons_zero, List.set_cons_succ])
      refine Goes.all (rs := [2, 3, 4]) (by kernel_rfl) (by simp) ?_
      refine (Ups.cons (i := 2) (o := ?oo100) ?ho100 (fun KK hKK => ?stp100) (Ups.cons (i := 3) (o := ?oo101) ?ho101 (fun KK hKK => ?stp101) (Ups.cons (i := 4) (o := ?oo102) ?ho102 (fun KK hKK => ?stp102) Ups.nil)))
      case ho100 => (simp only [List.getElem?_toArray, List.getElem?_cons_succ, List.getElem?_cons_zero] <;> rfl)
      case ho101 => (simp only [List.getElem?_toArray, List.getElem?_cons_succ, List.getElem?_cons_zero] <;> rfl)
      case ho102 => (simp only [List.getElem?_toArray, List.getElem?_cons_succ, List.getElem?_cons_zero] <;> rfl)
      case stp100 =>
        go_simp
        go_at_call 12
        refine (HCB.out _).mono ?_
        rintro e' w110 ⟨N, rfl, hnp, hb⟩
        obtain ⟨n1, n2, m1, m2, eN, ho⟩ := net_two hnp
        subst eN
        clear hnp
        dsimp only
        refine hKK.out _ _ (Or.inr trivial) ?_
        clear hKK KK
        (try simp only [Act.put, List.setIfInBounds_toArray, List.set_cons_zero, List.set_cons_succ])
        obtain ⟨hX2, ehX2⟩ : ∃ x, x = w20.heap.size := ⟨_, rfl⟩
        obtain ⟨tX2, etX2⟩ : ∃ x, x = w110.heap.size := ⟨_, rfl⟩
        have lRX2 : w.heap.size < hX2 := by rw [ehX2]; exact zR
        have mX2 : hX2 ≤ tX2 := by rw [ehX2, etX2]; exact hb.size
        have rX1X2 : t1 ≤ hX2 := by rw [ehX2]; exact lX1
        replace kR := bx_below kR zR hb
        replace fR := bxF fR hb zR
        replace zR := Nat.lt_of_lt_of_le zR hb.size
        replace X1 : Hid (Own w110 m t1 shConnsO [nconn 0 a (-1), nconn 1 b (-1)] [.slice va 2 vc]) := Own.below X1.out (by omega) hb
        replace lX1 : t1 ≤ w110.heap.size := Nat.le_trans lX1 hb.size
        replace HB : Hid (Below w.heap.size w w110) := HB.out.trans (hb.mono HB.out.size)
        clear hb
        rw [← ehX2, ← etX2] at ho
        have lX2 : tX2 ≤ w110.heap.size := by omega
        have X2 : Hid (Own w110 hX2 tX2 (shNetT 50) ([], [false, false, false], ()) [.slice n1 0 m1, .slice n2 3 m2]) := ho
        clear ho ehX2 etX2
        refine Goes.all (rs := [3, 4]) (by kernel_rfl) (by simp) ?_
        refine (Ups.cons (i := 3) (o := ?oo120) ?ho120 (fun KK hKK => ?stp120) (Ups.cons (i := 4) (o := ?oo121) ?ho121 (fun KK hKK => ?stp121) Ups.nil))
        case ho120 => (simp only [List.getElem?_toArray, List.getElem?_cons_succ, List.getElem?_cons_zero] <;> rfl)
        case ho121 => (simp only [List.getElem?_toArray, List.getElem?_cons_succ, List.getElem?_cons_zero] <;> rfl)
        case stp120 =>
          refine make2_st w110 (by rfl) _ _ 28 22 (.slice none 0 0) 24 (by rfl) Try.underlying28 info_bsY rfl (by decide) (by rfl) (by rfl) ?_
          refine hKK.out _ _ (Or.inr trivial) ?_
          clear hKK KK
          (try simp only [Act.put, List.setIfInBounds_toArray, List.set_cons_zero, List.set_cons_succ])
          have hb : Below w110.heap.size w110 (w110.alloc (.cells #[.slice none 0 0, .slice none 0 0] 22)) := (Below.refl _ _).alloc (Nat.le_refl _) _
          have ho : Own (w110.alloc (.cells #[.slice none 0 0, .slice none 0 0] 22)) w110.heap.size (w110.alloc (.cells #[.slice none 0 0, .slice none 0 0] 22)).heap.size shBss [[], []] [.slice (some ⟨w110.heap.size, 0, none⟩) 2 2] := made_two w110 22 u8s ([] : List Int) (.slice none 0 0) (fun W => Or.inl ⟨rfl, rfl, rfl⟩)
          generalize hWW : (w110.alloc (.cells #[.slice none 0 0, .slice none 0 0] 22)) = w130 at hb ho ⊢
          clear hWW
          obtain ⟨hX3, ehX3⟩ : ∃ x, x = w110.heap.size := ⟨_, rfl⟩
          obtain ⟨tX3, etX3⟩ : ∃ x, x = w130.heap.size := ⟨_, rfl⟩
          have lRX3 : w.heap.size < hX3 := by rw [ehX3]; exact zR
          have mX3 : hX3 ≤ tX3 := by rw [ehX3, etX3]; exact hb.size
          have rX1X3 : t1 ≤ hX3 := by rw [ehX3]; exact lX1
          have rX2X3 : tX2 ≤ hX3 := by rw [ehX3]; exact lX2
          replace kR := bx_below kR zR hb
          replace fR := bxF fR hb zR
          replace zR := Nat.lt_of_lt_of_le zR hb.size
          replace X1 : Hid (Own w130 m t1 shConnsO [nconn 0 a (-1), nconn 1 b (-1)] [.slice va 2 vc]) := Own.below X1.out (by omega) hb
          replace lX1 : t1 ≤ w130.heap.size := Nat.le_trans lX1 hb.size
          replace X2 : Hid (Own w130 hX2 tX2 (shNetT 50) ([], [false, false, false], ()) [.slice n1 0 m1, .slice n2 3 m2]) := Own.below X2.out (by omega) hb
          replace lX2 : tX2 ≤ w130.heap.size := Nat.le_trans lX2 hb.size
          replace HB : Hid (Below w.heap.size w w130) := HB.out.trans (hb.mono HB.out.size)
          clear hb
          rw [← ehX3] at ho ⊢; rw [← etX3] at ho
          have lX3 : tX3 ≤ w130.heap.size := by omega
          have X3 : Hid (Own w130 hX3 tX3 shBss [[], []] [.slice (some ⟨hX3, 0, none⟩) 2 2]) := ho
          clear ho ehX3 etX3
          refine Goes.all (rs := [4]) (by kernel_rfl) (by simp) ?_
          refine (Ups.cons (i := 4) (o := ?oo140) ?ho140 (fun KK hKK => ?stp140) Ups.nil)
          case ho140 => (simp only [List.getElem?_toArray, List.getElem?_cons_succ, List.getElem?_cons_zero] <;> rfl)
          case stp140 =>
            refine make2_st w130 (by rfl) _ _ 25 4 (.bool false) 1 (by rfl) Try.underlying25 info_bl1 rfl (by decide) (by rfl) (by rfl) ?_
            refine hKK.out _ _ (Or.inr trivial) ?_
            clear hKK KK
            (try simp only [Act.put, List.setIfInBounds_toArray, List.set_cons_zero, List.set_cons_succ])
            have hb : Below w130.heap.size w130 (w130.alloc (.cells #[.bool false, .bool false] 4)) := (Below.refl _ _).alloc (Nat.le_refl _) _
            have ho : Own (w130.alloc (.cells #[.bool false, .bool false] 4)) w130.heap.size (w130.alloc (.cells #[.bool false, .bool false] 4)).heap.size (bls 4) [false, false] [.slice (some ⟨w130.heap.size, 0, none⟩) 2 2] := made_two w130 4 .bool false (.bool false) (fun W => ⟨rfl, rfl⟩)
            generalize hWW : (w130.alloc (.cells #[.bool false, .bool false] 4)) = w150 at hb ho ⊢
            clear hWW
            obtain ⟨hX4, ehX4⟩ : ∃ x, x = w130.heap.size := ⟨_, rfl⟩
            obtain ⟨tX4, etX4⟩ : ∃ x, x = w150.heap.size := ⟨_, rfl⟩
            have lRX4 : w.heap.size < hX4 := by rw [ehX4]; exact zR
            have mX4 : hX4 ≤ tX4 := by rw [ehX4, etX4]; exact hb.size
            have rX1X4 : t1 ≤ hX4 := by rw [ehX4]; exact lX1
            have rX2X4 : tX2 ≤ hX4 := by rw [ehX4]; exact lX2
            have rX3X4 : tX3 ≤ hX4 := by rw [ehX4]; exact lX3
            replace kR := bx_below kR zR hb
            replace fR := bxF fR hb zR
            replace zR := Nat.lt_of_lt_of_le zR hb.size
            replace X1 : Hid (Own w150 m t1 shConnsO [nconn 0 a (-1), nconn 1 b (-1)] [.slice va 2 vc]) := Own.below X1.out (by omega) hb
            replace lX1 : t1 ≤ w150.heap.size := Nat.le_trans lX1 hb.size
            replace X2 : Hid (Own w150 hX2 tX2 (shNetT 50) ([], [false, false, false], ()) [.slice n1 0 m1, .slice n2 3 m2]) := Own.below X2.out (by omega) hb
            replace lX2 : tX2 ≤ w150.heap.size := Nat.le_trans lX2 hb.size
            replace X3 : Hid (Own w150 hX3 tX3 shBss [[], []] [.slice (some ⟨hX3, 0, none⟩) 2 2]) := Own.below X3.out (by omega) hb
            replace lX3 : tX3 ≤ w150.heap.size := Nat.le_trans lX3 hb.size
            replace HB : Hid (Below w.heap.size w w150) := HB.out.trans (hb.mono HB.out.size)
            clear hb
            rw [← ehX4] at ho ⊢; rw [← etX4] at ho
            have lX4 : tX4 ≤ w150.heap.size := by omega
            have X4 : Hid (Own w150 hX4 tX4 (bls 4) [false, false] [.slice (some ⟨hX4, 0, none⟩) 2 2]) := ho
            clear ho ehX4 etX4
            refine Goes.take (i := 5) (oi := ?oi161) (x := ?vx161) ?ho161 (by kernel_rfl) (by kernel_rfl) (by kernel_rfl) (by kernel_rfl) (fun _ _ _ h => h) (Or.inl ⟨?hw161, ?hy161⟩) trivial ?rest161
            case ho161 => (simp only [List.getElem?_toArray, List.getElem?_cons_succ, List.getElem?_cons_zero] <;> rfl)
            case hw161 => rfl
            case hy161 => (intro w' hSw; go_simp; (try with_reducible rfl))
            case rest161 =>
            (try simp only [Act.put, List.setIfInBounds_toArray, List.set_cons_zero, List.set_cons_succ])
            refine Goes.take (i := 6) (oi := ?oi162) (x := ?vx162) ?ho162 (by kernel_rfl) (by kernel_rfl) (by kernel_rfl) (by kernel_rfl) (fun _ _ _ h => h) (Or.inl ⟨?hw162, ?hy162⟩) trivial ?rest162
            case ho162 => (simp only [List.getElem?_toArray, List.getElem?_cons_succ, List.getElem?_cons_zero] <;> rfl)
            case hw162 => rfl
            case hy162 => (intro w' hSw; go_simp; (try with_reducible rfl))
            case rest162 =>
            (try simp only [Act.put, List.setIfInBounds_toArray, List.set_cons_zero, List.set_cons_succ])
            obtain ⟨N, hN⟩ : ∃ N : Array Value, N = #[.int .i64 0, .slice none 0 0, .int .i64 0, .slice va 2 vc, .slice n1 0 m1, .slice n2 3 m2, .slice (some ⟨hX3, 0, none⟩) 2 2, .slice (some ⟨hX4, 0, none⟩) 2 2] := ⟨_, rfl⟩
            have HN : Hid _ := hN
            have HNZ : Hid (N.size = 8) := by show _ = _; rw [hN]; rfl
            have HIN : Hid ((Try.prog.info? 32).map (·.size) = some N.size) := by show _ = _; rw [HNZ.out]; exact info_WRn
            have HONE : Hid (N.all (·.oneCell') = true) := by show _ = _; rw [hN]; simp [Value.oneCell']
            clear hN
            have HKR : Hid (∀ o, (w150.setCells w.heap.size 0 N.toList).cell? ⟨w.heap.size, o, none⟩ = N[o]?) := bx_setCells kR (by rw [HNZ.out]; rfl)
            refine Goes.all (rs := [7]) (by kernel_rfl) (by simp) ?_
            refine Ups.cons (i := 7) (o := ?oo171) ?ho171 (fun KK hKK => ?stp171) Ups.nil
            case ho171 => (simp only [List.getElem?_toArray, List.getElem?_cons_succ, List.getElem?_cons_zero] <;> rfl)
            case stp171 =>
            rw [if_pos (by rfl)]
            refine wp_store_mid 32 _ _ rfl _ _ N (by rfl) (by rw [HN.out]; rfl) (bx_there kR fR (by rw [HNZ.out]; rfl)) HIN.out HONE.out ?_
            refine hKK.out _ _ (Or.inl rfl) ?_
            clear hKK KK
            (try simp only [Act.put])
            refine Goes.done (by kernel_rfl) ?_ _
            refine NoPanic.normal ?_
            go_wp2_with fail
            refine bodyPost_ret (results_box Try.results5 _ _ _ N _ (by rfl) HKR.out Try.underlying32 rfl HIN.out) rfl ⟨N, rfl, ?_, setCells_below (by omega) _ _ _ _ HB.out⟩
            rw [setCells_size, HN.out, HV.out]
            have h := own_WR (t := 50) (lo := w.heap.size + 1) (m := w.heap.size + 1) (hi := w150.heap.size) (q := 0) (s := []) (u := .slice none 0 0) (by decide) ⟨[], zero_ow _ u8s, by simp, by simp⟩ (own_W4 (lo := w.heap.size + 1) (hi := w150.heap.size) (y0 := 0) (by decide) X1.out X2.out X3.out X4.out (by omega) (by omega) (by omega) (by omega) (by omega) (by omega) (by omega) (by omega) (by omega) (by omega) (by omega) (by omega) (by omega) (by omega)) (Nat.le_refl _) (by omega)
            exact Own.mono (Own.keep h (fun b h1 h2 => setCells_block (by omega) _ _ _)) (by omega) (Nat.le_refl _)
        case stp121 =>
          refine make2_st w110 (by rfl) _ _ 25 4 (.bool false) 1 (by rfl) Try.underlying25 info_bl1 rfl (by decide) (by rfl) (by rfl) ?_
          refine hKK.out _ _ (Or.inr trivial) ?_
          clear hKK KK
          (try simp only [Act.put, List.setIfInBounds_toArray, List.set_cons_zero, List.set_cons_succ])
          have hb : Below w110.heap.size w110 (w110.alloc (.cells #[.bool false, .bool false] 4)) := (Below.refl _ _).alloc (Nat.le_refl _) _
          have ho : Own (w110.alloc (.cells #[.bool false, .bool false] 4)) w110.heap.size (w110.alloc (.cells #[.bool false, .bool false] 4)).heap.size (bls 4) [false, false] [.slice (some ⟨w110.heap.size, 0, none⟩) 2 2] := made_two w110 4 .bool false (.bool false) (fun W => ⟨rfl, rfl⟩)
          generalize hWW : (w110.alloc (.cells #[.bool false, .bool false] 4)) = w180 at hb ho ⊢
          clear hWW
          obtain ⟨hX4, ehX4⟩ : ∃ x, x = w110.heap.size := ⟨_, rfl⟩
          obtain ⟨tX4, etX4⟩ : ∃ x, x = w180.heap.size := ⟨_, rfl⟩
          have lRX4 : w.heap.size < hX4 := by rw [ehX4]; exact zR
          have mX4 : hX4 ≤ tX4 := by rw [ehX4, etX4]; exact hb.size
          have rX1X4 : t1 ≤ hX4 := by rw [ehX4]; exact lX1
          have rX2X4 : tX2 ≤ hX4 := by rw [ehX4]; exact lX2
          replace kR := bx_below kR zR hb
          replace fR := bxF fR hb zR
          replace zR := Nat.lt_of_lt_of_le zR hb.size
          replace X1 : Hid (Own w180 m t1 shConnsO [nconn 0 a (-1), nconn 1 b (-1)] [.slice va 2 vc]) := Own.below X1.out (by omega) hb
          replace lX1 : t1 ≤ w180.heap.size := Nat.le_trans lX1 hb.size
          replace X2 : Hid (Own w180 hX2 tX2 (shNetT 50) ([], [false, false, false], ()) [.slice n1 0 m1, .slice n2 3 m2]) := Own.below X2.out (by omega) hb
          replace lX2 : tX2 ≤ w180.heap.size := Nat.le_trans lX2 hb.size
          replace HB : Hid (Below w.heap.size w w180) := HB.out.trans (hb.mono HB.out.size)
          clear hb
          rw [← ehX4] at ho ⊢; rw [← etX4] at ho
          have lX4 : tX4 ≤ w180.heap.size := by omega
          have X4 : Hid (Own w180 hX4 tX4 (bls 4) [false, false] [.slice (some ⟨hX4, 0, none⟩) 2 2]) := ho
          clear ho ehX4 etX4
          refine Goes.all (rs := [3]) (by kernel_rfl) (by simp) ?_
          refine (Ups.cons (i := 3) (o := ?oo190) ?ho190 (fun KK hKK => ?stp190) Ups.nil)
          case ho190 => (simp only [List.getElem?_toArray, List.getElem?_cons_succ, List.getElem?_cons_zero] <;> rfl)
          case stp190 =>
            refine make2_st w180 (by rfl) _ _ 28 22 (.slice none 0 0) 24 (by rfl) Try.underlying28 info_bsY rfl (by decide) (by rfl) (by rfl) ?_
            refine hKK.out _ _ (Or.inr trivial) ?_
            clear hKK KK
            (try simp only [Act.put, List.setIfInBounds_toArray, List.set_cons_zero, List.set_cons_succ])
            have hb : Below w180.heap.size w180 (w180.alloc (.cells #[.slice none 0 0, .slice none 0 0] 22)) := (Below.refl _ _).alloc (Nat.le_refl _) _
            have ho : Own (w180.alloc (.cells #[.slice none 0 0, .slice none 0 0] 22)) w180.heap.size (w180.alloc (.cells #[.slice none 0 0, .slice none 0 0] 22)).heap.size shBss [[], []] [.slice (some ⟨w180.heap.size, 0, none⟩) 2 2] := made_two w180 22 u8s ([] : List Int) (.slice none 0 0) (fun W => Or.inl ⟨rfl, rfl, rfl⟩)
            generalize hWW : (w180.alloc (.cells #[.slice none 0 0, .slice none 0 0] 22)) = w200 at hb ho ⊢
            clear hWW
            obtain ⟨hX3, ehX3⟩ : ∃ x, x = w180.heap.size := ⟨_, rfl⟩
            obtain ⟨tX3, etX3⟩ : ∃ x, x = w200.heap.size := ⟨_, rfl⟩
            have lRX3 : w.heap.size < hX3 := by rw [ehX3]; exact zR
            have mX3 : hX3 ≤ tX3 := by rw [ehX3, etX3]; exact hb.size
            have rX1X3 : t1 ≤ hX3 := by rw [ehX3]; exact lX1
            have rX2X3 : tX2 ≤ hX3 := by rw [ehX3]; exact lX2
            have rX4X3 : tX4 ≤ hX3 := by rw [ehX3]; exact lX4
            replace kR := bx_below kR zR hb
            replace fR := bxF fR hb zR
            replace zR := Nat.lt_of_lt_of_le zR hb.size
            replace X1 : Hid (Own w200 m t1 shConnsO [nconn 0 a (-1), nconn 1 b (-1)] [.slice va 2 vc]) := Own.below X1.out (by omega) hb
            replace lX1 : t1 ≤ w200.heap.size := Nat.le_trans lX1 hb.size
            replace X2 : Hid (Own w200 hX2 tX2 (shNetT 50) ([], [false, false, false], ()) [.slice n1 0 m1, .slice n2 3 m2]) := Own.below X2.out (by omega) hb
            replace lX2 : tX2 ≤ w200.heap.size := Nat.le_trans lX2 hb.size
            replace X4 : Hid (Own w200 hX4 tX4 (bls 4) [false, false] [.slice (some ⟨hX4, 0, none⟩) 2 2]) := Own.below X4.out (by omega) hb
            replace lX4 : tX4 ≤ w200.heap.size := Nat.le_trans lX4 hb.size
            replace HB : Hid (Below w.heap.size w w200) := HB.out.trans (hb.mono HB.out.size)
            clear hb
            rw [← ehX3] at ho ⊢; rw [← etX3] at ho
            have lX3 : tX3 ≤ w200.heap.size := by omega
            have X3 : Hid (Own w200 hX3 tX3 shBss [[], []] [.slice (some ⟨hX3, 0, none⟩) 2 2]) := ho
            clear ho ehX3 etX3
            refine Goes.take (i := 5) (oi := ?oi211) (x := ?vx211) ?ho211 (by kernel_rfl) (by kernel_rfl) (by kernel_rfl) (by kernel_rfl) (fun _ _ _ h => h) (Or.inl ⟨?hw211, ?hy211⟩) trivial ?rest211
            case ho211 => (simp only [List.getElem?_toArray, List.getElem?_cons_succ, List.getElem?_cons_zero] <;> rfl)
            case hw211 => rfl
            case hy211 => (intro w' hSw; go_simp; (try with_reducible rfl))
            case rest211 =>
            (try simp only [Act.put, List.setIfInBounds_toArray, List.set_cons_zero, List.set_cons_succ])
            refine Goes.take (i := 6) (oi := ?oi212) (x := ?vx212) ?ho212 (by kernel_rfl) (by kernel_rfl) (by kernel_rfl) (by kernel_rfl) (fun _ _ _ h => h) (Or.inl ⟨?hw212, ?hy212⟩) trivial ?rest212
            case ho212 => (simp only [List.getElem?_toArray, List.getElem?_cons_succ, List.getElem?_cons_zero] <;> rfl)
            case hw212 => rfl
            case hy212 => (intro w' hSw; go_simp; (try with_reducible rfl))
            case rest212 =>
            (try simp only [Act.put, List.setIfInBounds_toArray, List.set_cons_zero, List.set_cons_succ])
            obtain ⟨N, hN⟩ : ∃ N : Array Value, N = #[.int .i64 0, .slice none 0 0, .int .i64 0, .slice va 2 vc, .slice n1 0 m1, .slice n2 3 m2, .slice (some ⟨hX3, 0, none⟩) 2 2, .slice (some ⟨hX4, 0, none⟩) 2 2] := ⟨_, rfl⟩
            have HN : Hid _ := hN
            have HNZ : Hid (N.size = 8) := by show _ = _; rw [hN]; rfl
            have HIN : Hid ((Try.prog.info? 32).map (·.size) = some N.size) := by show _ = _; rw [HNZ.out]; exact info_WRn
            have HONE : Hid (N.all (·.oneCell') = true) := by show _ = _; rw [hN]; simp [Value.oneCell']
            clear hN
            have HKR : Hid (∀ o, (w200.setCells w.heap.size 0 N.toList).cell? ⟨w.heap.size, o, none⟩ = N[o]?) := bx_setCells kR (by rw [HNZ.out]; rfl)
            refine Goes.all (rs := [7]) (by kernel_rfl) (by simp) ?_
            refine Ups.cons (i := 7) (o := ?oo221) ?ho221 (fun KK hKK => ?stp221) Ups.nil
            case ho221 => (simp only [List.getElem?_toArray, List.getElem?_cons_succ, List.getElem?_cons_zero] <;> rfl)
            case stp221 =>
            rw [if_pos (by rfl)]
            refine wp_store_mid 32 _ _ rfl _ _ N (by rfl) (by rw [HN.out]; rfl) (bx_there kR fR (by rw [HNZ.out]; rfl)) HIN.out HONE.out ?_
            refine hKK.out _ _ (Or.inl rfl) ?_
            clear hKK KK
            (try simp only [Act.put])
            refine Goes.done (by kernel_rfl) ?_ _
            refine NoPanic.normal ?_
            go_wp2_with fail
            refine bodyPost_ret (results_box Try.results5 _ _ _ N _ (by rfl) HKR.out Try.underlying32 rfl HIN.out) rfl ⟨N, rfl, ?_, setCells_below (by omega) _ _ _ _ HB.out⟩
            rw [setCells_size, HN.out, HV.out]
            have h := own_WR (t := 50) (lo := w.heap.size + 1) (m := w.heap.size + 1) (hi := w200.heap.size) (q := 0) (s := []) (u := .slice none 0 0) (by decide) ⟨[], zero_ow _ u8s, by simp, by simp⟩ (own_W4 (lo := w.heap.size + 1) (hi := w200.heap.size) (y0 := 0) (by decide) X1.out X2.out X3.out X4.out (by omega) (by omega) (by omega) (by omega) (by omega) (by omega) (by omega) (by omega) (by omega) (by omega) (by omega) (by omega) (by omega) (by omega)) (Nat.le_refl _) (by omega)
            exact Own.mono (Own.keep h (fun b h1 h2 => setCells_block (by omega) _ _ _)) (by omega) (Nat.le_refl _)
      case stp101 =>
        refine make2_st w20 (by rfl) _ _ 28 22 (.slice none 0 0) 24 (by rfl) Try.underlying28 info_bsY rfl (by decide) (by rfl) (by rfl) ?_
        refine hKK.out _ _ (Or.inr trivial) ?_
        clear hKK KK
        (try simp only [Act.put, List.setIfInBounds_toArray, List.set_cons_zero, List.set_cons_succ])
        have hb : Below w20.heap.size w20 (w20.alloc (.cells #[.slice none 0 0, .slice none 0 0] 22)) := (Below.refl _ _).alloc (Nat.le_refl _) _
        have ho : Own (w20.alloc (.cells #[.slice none 0 0, .slice none 0 0] 22)) w20.heap.size (w20.alloc (.cells #[.slice none 0 0, .slice none 0 0] 22)).heap.size shBss [[], []] [.slice (some ⟨w20.heap.size, 0, none⟩) 2 2] := made_two w20 22 u8s ([] : List Int) (.slice none 0 0) (fun W => Or.inl ⟨rfl, rfl, rfl⟩)
        generalize hWW : (w20.alloc (.cells #[.slice none 0 0, .slice none 0 0] 22)) = w230 at hb ho ⊢
        clear hWW
        obtain ⟨hX3, ehX3⟩ : ∃ x, x = w20.heap.size := ⟨_, rfl⟩
        obtain ⟨tX3, etX3⟩ : ∃ x, x = w230.heap.size := ⟨_, rfl⟩
        have lRX3 : w.heap.size < hX3 := by rw [ehX3]; exact zR
        have mX3 : hX3 ≤ tX3 := by rw [ehX3, etX3]; exact hb.size
        have rX1X3 : t1 ≤ hX3 := by rw [ehX3]; exact lX1
        replace kR := bx_below kR zR hb
        replace fR := bxF fR hb zR
        replace zR := Nat.lt_of_lt_of_le zR hb.size
        replace X1 : Hid (Own w230 m t1 shConnsO [nconn 0 a (-1), nconn 1 b (-1)] [.slice va 2 vc]) := Own.below X1.out (by omega) hb
        replace lX1 : t1 ≤ w230.heap.size := Nat.le_trans lX1 hb.size
        replace HB : Hid (Below w.heap.size w w230) := HB.out.trans (hb.mono HB.out.size)
        clear hb
        rw [← ehX3] at ho ⊢; rw [← etX3] at ho
        have lX3 : tX3 ≤ w230.heap.size := by omega
        have X3 : Hid (Own w230 hX3 tX3 shBss [[], []] [.slice (some ⟨hX3, 0, none⟩) 2 2]) := ho
        clear ho ehX3 etX3
        refine Goes.all (rs := [2, 4]) (by kernel_rfl) (by simp) ?_
        refine (Ups.cons (i := 2) (o := ?oo240) ?ho240 (fun KK hKK => ?stp240) (Ups.cons (i := 4) (o := ?oo241) ?ho241 (fun KK hKK => ?stp241) Ups.nil))
        case ho240 => (simp only [List.getElem?_toArray, List.getElem?_cons_succ, List.getElem?_cons_zero] <;> rfl)
        case ho241 => (simp only [List.getElem?_toArray, List.getElem?_cons_succ, List.getElem?_cons_zero] <;> rfl)
        case stp240 =>
          go_simp
          go_at_call 12
          refine (HCB.out _).mono ?_
          rintro e' w250 ⟨N, rfl, hnp, hb⟩
          obtain ⟨n1, n2, m1, m2, eN, ho⟩ := net_two hnp
          subst eN
          clear hnp
          dsimp only
          refine hKK.out _ _ (Or.inr trivial) ?_
          clear hKK KK
          (try simp only [Act.put, List.setIfInBounds_toArray, List.set_cons_zero, List.set_cons_succ])
          obtain ⟨hX2, ehX2⟩ : ∃ x, x = w230.heap.size := ⟨_, rfl⟩
          obtain ⟨tX2, etX2⟩ : ∃ x, x = w250.heap.size := ⟨_, rfl⟩
          have lRX2 : w.heap.size < hX2 := by rw [ehX2]; exact zR
          have mX2 : hX2 ≤ tX2 := by rw [ehX2, etX2]; exact hb.size
          have rX1X2 : t1 ≤ hX2 := by rw [ehX2]; exact lX1
          have rX3X2 : tX3 ≤ hX2 := by rw [ehX2]; exact lX3
          replace kR := bx_below kR zR hb
          replace fR := bxF fR hb zR
          replace zR := Nat.lt_of_lt_of_le zR hb.size
          replace X1 : Hid (Own w250 m t1 shConnsO [nconn 0 a (-1), nconn 1 b (-1)] [.slice va 2 vc]) := Own.below X1.out (by omega) hb
          replace lX1 : t1 ≤ w250.heap.size := Nat.le_trans lX1 hb.size
          replace X3 : Hid (Own w250 hX3 tX3 shBss [[], []] [.slice (some ⟨hX3, 0, none⟩) 2 2]) := Own.below X3.out (by omega) hb
          replace lX3 : tX3 ≤ w250.heap.size := Nat.le_trans lX3 hb.size
          replace HB : Hid (Below w.heap.size w w250) := HB.out.trans (hb.mono HB.out.size)
          clear hb
          rw [← ehX2, ← etX2] at ho
          have lX2 : tX2 ≤ w250.heap.size := by omega
          have X2 : Hid (Own w250 hX2 tX2 (shNetT 50) ([], [false, false, false], ()) [.slice n1 0 m1, .slice n2 3 m2]) := ho
          clear ho ehX2 etX2
          refine Goes.all (rs := [4]) (by kernel_rfl) (by simp) ?_
          refine (Ups.cons (i := 4) (o := ?oo260) ?ho260 (fun KK hKK => ?stp260) Ups.nil)
          case ho260 => (simp only [List.getElem?_toArray, List.getElem?_cons_succ, List.getElem?_cons_zero] <;> rfl)
          case stp260 =>
            refine make2_st w250 (by rfl) _ _ 25 4 (.bool false) 1 (by rfl) Try.underlying25 info_bl1 rfl (by decide) (by rfl) (by rfl) ?_
            refine hKK.out _ _ (Or.inr trivial) ?_
            clear hKK KK
            (try simp only [Act.put, List.setIfInBounds_toArray, List.set_cons_zero, List.set_cons_succ])
            have hb : Below w250.heap.size w250 (w250.alloc (.cells #[.bool false, .bool false] 4)) := (Below.refl _ _).alloc (Nat.le_refl _) _
            have ho : Own (w250.alloc (.cells #[.bool false, .bool false] 4)) w250.heap.size (w250.alloc (.cells #[.bool false, .bool false] 4)).heap.size (bls 4) [false, false] [.slice (some ⟨w250.heap.size, 0, none⟩) 2 2] := made_two w250 4 .bool false (.bool false) (fun W => ⟨rfl, rfl⟩)
            generalize hWW : (w250.alloc (.cells #[.bool false, .bool false] 4)) = w270 at hb ho ⊢
            clear hWW
            obtain ⟨hX4, ehX4⟩ : ∃ x, x = w250.heap.size := ⟨_, rfl⟩
            obtain ⟨tX4, etX4⟩ : ∃ x, x = w270.heap.size := ⟨_, rfl⟩
            have lRX4 : w.heap.size < hX4 := by rw [ehX4]; exact zR
            have mX4 : hX4 ≤ tX4 := by rw [ehX4, etX4]; exact hb.size
            have rX1X4 : t1 ≤ hX4 := by rw [ehX4]; exact lX1
            have rX3X4 : tX3 ≤ hX4 := by rw [ehX4]; exact lX3
            have rX2X4 : tX2 ≤ hX4 := by rw [ehX4]; exact lX2
            replace kR := bx_below kR zR hb
            replace fR := bxF fR hb zR
            replace zR := Nat.lt_of_lt_of_le zR hb.size
            replace X1 : Hid (Own w270 m t1 shConnsO [nconn 0 a (-1), nconn 1 b (-1)] [.slice va 2 vc]) := Own.below X1.out (by omega) hb
            replace lX1 : t1 ≤ w270.heap.size := Nat.le_trans lX1 hb.size
            replace X3 : Hid (Own w270 hX3 tX3 shBss [[], []] [.slice (some ⟨hX3, 0, none⟩) 2 2]) := Own.below X3.out (by omega) hb
            replace lX3 : tX3 ≤ w270.heap.size := Nat.le_trans lX3 hb.size
            replace X2 : Hid (Own w270 hX2 tX2 (shNetT 50) ([], [false, false, false], ()) [.slice n1 0 m1, .slice n2 3 m2]) := Own.below X2.out (by omega) hb
            replace lX2 : tX2 ≤ w270.heap.size := Nat.le_trans lX2 hb.size
            replace HB : Hid (Below w.heap.size w w270) := HB.out.trans (hb.mono HB.out.size)
            clear hb
            rw [← ehX4] at ho ⊢; rw [← etX4] at ho
            have lX4 : tX4 ≤ w270.heap.size := by omega
            have X4 : Hid (Own w270 hX4 tX4 (bls 4) [false, false] [.slice (some ⟨hX4, 0, none⟩) 2 2]) := ho
            clear ho ehX4 etX4
            refine Goes.take (i := 5) (oi := ?oi281) (x := ?vx281) ?ho281 (by kernel_rfl) (by kernel_rfl) (by kernel_rfl) (by kernel_rfl) (fun _ _ _ h => h) (Or.inl ⟨?hw281, ?hy281⟩) trivial ?rest281
            case ho281 => (simp only [List.getElem?_toArray, List.getElem?_cons_succ, List.getElem?_cons_zero] <;> rfl)
            case hw281 => rfl
            case hy281 => (intro w' hSw; go_simp; (try with_reducible rfl))
            case rest281 =>
            (try simp only [Act.put, List.setIfInBounds_toArray, List.set_cons_zero, List.set_cons_succ])
            refine Goes.take (i := 6) (oi := ?oi282) (x := ?vx282) ?ho282 (by kernel_rfl) (by kernel_rfl) (by kernel_rfl) (by kernel_rfl) (fun _ _ _ h => h) (Or.inl ⟨?hw282, ?hy282⟩) trivial ?rest282
            case ho282 => (simp only [List.getElem?_toArray, List.getElem?_cons_succ, List.getElem?_cons_zero] <;> rfl)
            case hw282 => rfl
            case hy282 => (intro w' hSw; go_simp; (try with_reducible rfl))
            case rest282 =>
            (try simp only [Act.put, List.setIfInBounds_toArray, List.set_cons_zero, List.set_cons_succ])
            obtain ⟨N, hN⟩ : ∃ N : Array Value, N = #[.int .i64 0, .slice none 0 0, .int .i64 0, .slice va 2 vc, .slice n1 0 m1, .slice n2 3 m2, .slice (some ⟨hX3, 0, none⟩) 2 2, .slice (some ⟨hX4, 0, none⟩) 2 2] := ⟨_, rfl⟩
            have HN : Hid _ := hN
            have HNZ : Hid (N.size = 8) := by show _ = _; rw [hN]; rfl
            have HIN : Hid ((Try.prog.info? 32).map (·.size) = some N.size) := by show _ = _; rw [HNZ.out]; exact info_WRn
            have HONE : Hid (N.all (·.oneCell') = true) := by show _ = _; rw [hN]; simp [Value.oneCell']
            clear hN
            have HKR : Hid (∀ o, (w270.setCells w.heap.size 0 N.toList).cell? ⟨w.heap.size, o, none⟩ = N[o]?) := bx_setCells kR (by rw [HNZ.out]; rfl)
            refine Goes.all (rs := [7]) (by kernel_rfl) (by simp) ?_
            refine Ups.cons (i := 7) (o := ?oo291) ?ho291 (fun KK hKK => ?stp291) Ups.nil
            case ho291 => (simp only [List.getElem?_toArray, List.getElem?_cons_succ, List.getElem?_cons_zero] <;> rfl)
            case stp291 =>
            rw [if_pos (by rfl)]
            refine wp_store_mid 32 _ _ rfl _ _ N (by rfl) (by rw [HN.out]; rfl) (bx_there kR fR (by rw [HNZ.out]; rfl)) HIN.out HONE.out ?_
            refine hKK.out _ _ (Or.inl rfl) ?_
            clear hKK KK
            (try simp only [Act.put])
            refine Goes.done (by kernel_rfl) ?_ _
            refine NoPanic.normal ?_
            go_wp2_with fail
            refine bodyPost_ret (results_box Try.results5 _ _ _ N _ (by rfl) HKR.out Try.underlying32 rfl HIN.out) rfl ⟨N, rfl, ?_, setCells_below (by omega) _ _ _ _ HB.out⟩
            rw [setCells_size, HN.out, HV.out]
            have h := own_WR (t := 50) (lo := w.heap.size + 1) (m := w.heap.size + 1) (hi := w270.heap.size) (q := 0) (s := []) (u := .slice none 0 0) (by decide) ⟨[], zero_ow _ u8s, by simp, by simp⟩ (own_W4 (lo := w.heap.size + 1) (hi := w270.heap.size) (y0 := 0) (by decide) X1.out X2.out X3.out X4.out (by omega) (by omega) (by omega) (by omega) (by omega) (by omega) (by omega) (by omega) (by omega) (by omega) (by omega) (by omega) (by omega) (by omega)) (Nat.le_refl _) (by omega)
            exact Own.mono (Own.keep h (fun b h1 h2 => setCells_block (by omega) _ _ _)) (by omega) (Nat.le_refl _)
        case stp241 =>
          refine make2_st w230 (by rfl) _ _ 25 4 (.bool false) 1 (by rfl) Try.underlying25 info_bl1 rfl (by decide) (by rfl) (by rfl) ?_
          refine hKK.out _ _ (Or.inr trivial) ?_
          clear hKK KK
          (try simp only [Act.put, List.setIfInBounds_toArray, List.set_cons_zero, List.set_cons_succ])
          have hb : Below w230.heap.size w230 (w230.alloc (.cells #[.bool false, .bool false] 4)) := (Below.refl _ _).alloc (Nat.le_refl _) _
          have ho : Own (w230.alloc (.cells #[.bool false, .bool false] 4)) w230.heap.size (w230.alloc (.cells #[.bool false, .bool false] 4)).heap.size (bls 4) [false, false] [.slice (some ⟨w230.heap.size, 0, none⟩) 2 2] := made_two w230 4 .bool false (.bool false) (fun W => ⟨rfl, rfl⟩)
          generalize hWW : (w230.alloc (.cells #[.bool false, .bool false] 4)) = w300 at hb ho ⊢
          clear hWW
          obtain ⟨hX4, ehX4⟩ : ∃ x, x = w230.heap.size := ⟨_, rfl⟩
          obtain ⟨tX4, etX4⟩ : ∃ x, x = w300.heap.size := ⟨_, rfl⟩
          have lRX4 : w.heap.size < hX4 := by rw [ehX4]; exact zR
          have mX4 : hX4 ≤ tX4 := by rw [ehX4, etX4]; exact hb.size
          have rX1X4 : t1 ≤ hX4 := by rw [ehX4]; exact lX1
          have rX3X4 : tX3 ≤ hX4 := by rw [ehX4]; exact lX3
          replace kR := bx_below kR zR hb
          replace fR := bxF fR hb zR
          replace zR := Nat.lt_of_lt_of_le zR hb.size
          replace X1 : Hid (Own w300 m t1 shConnsO [nconn 0 a (-1), nconn 1 b (-1)] [.slice va 2 vc]) := Own.below X1.out (by omega) hb
          replace lX1 : t1 ≤ w300.heap.size := Nat.le_trans lX1 hb.size
          replace X3 : Hid (Own w300 hX3 tX3 shBss [[], []] [.slice (some ⟨hX3, 0, none⟩) 2 2]) := Own.below X3.out (by omega) hb
          replace lX3 : tX3 ≤ w300.heap.size := Nat.le_trans lX3 hb.size
          replace HB : Hid (Below w.heap.size w w300) := HB.out.trans (hb.mono HB.out.size)
          clear hb
          rw [← ehX4] at ho ⊢; rw [← etX4] at ho
          have lX4 : tX4 ≤ w300.heap.size := by omega
          have X4 : Hid (Own w300 hX4 tX4 (bls 4) [false, false] [.slice (some ⟨hX4, 0, none⟩) 2 2]) := ho
          clear ho ehX4 etX4
          refine Goes.all (rs := [2]) (by kernel_rfl) (by simp) ?_
          refine (Ups.cons (i := 2) (o := ?oo310) ?ho310 (fun KK hKK => ?stp310) Ups.nil)
          case ho310 => (simp only [List.getElem?_toArray, List.getElem?_cons_succ, List.getElem?_cons_zero] <;> rfl)
          case stp310 =>
            go_simp
            go_at_call 12
            refine (HCB.out _).mono ?_
            rintro e' w320 ⟨N, rfl, hnp, hb⟩
            obtain ⟨n1, n2, m1, m2, eN, ho⟩ := net_two hnp
            subst eN
            clear hnp
            dsimp only
            refine hKK.out _ _ (Or.inr trivial) ?_
            clear hKK KK
            (try simp only [Act.put, List.setIfInBounds_toArray, List.set_cons_zero, List.set_cons_succ])
            obtain ⟨hX2, ehX2⟩ : ∃ x, x = w300.heap.size := ⟨_, rfl⟩
            obtain ⟨tX2, etX2⟩ : ∃ x, x = w320.heap.size := ⟨_, rfl⟩
            have lRX2 : w.heap.size < hX2 := by rw [ehX2]; exact zR
            have mX2 : hX2 ≤ tX2 := by rw [ehX2, etX2]; exact hb.size
            have rX1X2 : t1 ≤ hX2 := by rw [ehX2]; exact lX1
            have rX3X2 : tX3 ≤ hX2 := by rw [ehX2]; exact lX3
            have rX4X2 : tX4 ≤ hX2 := by rw [ehX2]; exact lX4
            replace kR := bx_below kR zR hb
            replace fR := bxF fR hb zR
            replace zR := Nat.lt_of_lt_of_le zR hb.size
            replace X1 : Hid (Own w320 m t1 shConnsO [nconn 0 a (-1), nconn 1 b (-1)] [.slice va 2 vc]) := Own.below X1.out (by omega) hb
            replace lX1 : t1 ≤ w320.heap.size := Nat.le_trans lX1 hb.size
            replace X3 : Hid (Own w320 hX3 tX3 shBss [[], []] [.slice (some ⟨hX3, 0, none⟩) 2 2]) := Own.below X3.out (by omega) hb
            replace lX3 : tX3 ≤ w320.heap.size := Nat.le_trans lX3 hb.size
            replace X4 : Hid (Own w320 hX4 tX4 (bls 4) [false, false] [.slice (some ⟨hX4, 0, none⟩) 2 2]) := Own.below X4.out (by omega) hb
            replace lX4 : tX4 ≤ w320.heap.size := Nat.le_trans lX4 hb.size
            replace HB : Hid (Below w.heap.size w w320) := HB.out.trans (hb.mono HB.out.size)
            clear hb
            rw [← ehX2, ← etX2] at ho
            have lX2 : tX2 ≤ w320.heap.size := by omega
            have X2 : Hid (Own w320 hX2 tX2 (shNetT 50) ([], [false, false, false], ()) [.slice n1 0 m1, .slice n2 3 m2]) := ho
            clear ho ehX2 etX2
            refine Goes.take (i := 5) (oi := ?oi331) (x := ?vx331) ?ho331 (by kernel_rfl) (by kernel_rfl) (by kernel_rfl) (by kernel_rfl) (fun _ _ _ h => h) (Or.inl ⟨?hw331, ?hy331⟩) trivial ?rest331
            case ho331 => (simp only [List.getElem?_toArray, List.getElem?_cons_succ, List.getElem?_cons_zero] <;> rfl)
            case hw331 => rfl
            case hy331 => (intro w' hSw; go_simp; (try with_reducible rfl))
            case rest331 =>
            (try simp only [Act.put, List.setIfInBounds_toArray, List.set_cons_zero, List.set_cons_succ])
            refine Goes.take (i := 6) (oi := ?oi332) (x := ?vx332) ?ho332 (by kernel_rfl) (by kernel_rfl) (by kernel_rfl) (by kernel_rfl) (fun _ _ _ h => h) (Or.inl ⟨?hw332, ?hy332⟩) trivial ?rest332
            case ho332 => (simp only [List.getElem?_toArray, List.getElem?_cons_succ, List.getElem?_cons_zero] <;> rfl)
            case hw332 => rfl
            case hy332 => (intro w' hSw; go_simp; (try with_reducible rfl))
            case rest332 =>
            (try simp only [Act.put, List.setIfInBounds_toArray, List.set_cons_zero, List.set_cons_succ])
            obtain ⟨N, hN⟩ : ∃ N : Array Value, N = #[.int .i64 0, .slice none 0 0, .int .i64 0, .slice va 2 vc, .slice n1 0 m1, .slice n2 3 m2, .slice (some ⟨hX3, 0, none⟩) 2 2, .slice (some ⟨hX4, 0, none⟩) 2 2] := ⟨_, rfl⟩
            have HN : Hid _ := hN
            have HNZ : Hid (N.size = 8) := by show _ = _; rw [hN]; rfl
            have HIN : Hid ((Try.prog.info? 32).map (·.size) = some N.size) := by show _ = _; rw [HNZ.out]; exact info_WRn
            have HONE : Hid (N.all (·.oneCell') = true) := by show _ = _; rw [hN]; simp [Value.oneCell']
            clear hN
            have HKR : Hid (∀ o, (w320.setCells w.heap.size 0 N.toList).cell? ⟨w.heap.size, o, none⟩ = N[o]?) := bx_setCells kR (by rw [HNZ.out]; rfl)
            refine Goes.all (rs := [7]) (by kernel_rfl) (by simp) ?_
            refine Ups.cons (i := 7) (o := ?oo341) ?ho341 (fun KK hKK => ?stp341) Ups.nil
            case ho341 => (simp only [List.getElem?_toArray, List.getElem?_cons_succ, List.getElem?_cons_zero] <;> rfl)
            case stp341 =>
            rw [if_pos (by rfl)]
            refine wp_store_mid 32 _ _ rfl _ _ N (by rfl) (by rw [HN.out]; rfl) (bx_there kR fR (by rw [HNZ.out]; rfl)) HIN.out HONE.out ?_
            refine hKK.out _ _ (Or.inl rfl) ?_
            clear hKK KK
            (try simp only [Act.put])
            refine Goes.done (by kernel_rfl) ?_ _
            refine NoPanic.normal ?_
            go_wp2_with fail
            refine bodyPost_ret (results_box Try.results5 _ _ _ N _ (by rfl) HKR.out Try.underlying32 rfl HIN.out) rfl ⟨N, rfl, ?_, setCells_below (by omega) _ _ _ _ HB.out⟩
            rw [setCells_size, HN.out, HV.out]
            have h := own_WR (t := 50) (lo := w.heap.size + 1) (m := w.heap.size + 1) (hi := w320.heap.size) (q := 0) (s := []) (u := .slice none 0 0) (by decide) ⟨[], zero_ow _ u8s, by simp, by simp⟩ (own_W4 (lo := w.heap.size + 1) (hi := w320.heap.size) (y0 := 0) (by decide) X1.out X2.out X3.out X4.out (by omega) (by omega) (by omega) (by omega) (by omega) (by omega) (by omega) (by omega) (by omega) (by omega) (by omega) (by omega) (by omega) (by omega)) (Nat.le_refl _) (by omega)
            exact Own.mono (Own.keep h (fun b h1 h2 => setCells_block (by omega) _ _ _)) (by omega) (Nat.le_refl _)
      case stp102 =>
        refine make2_st w20 (by rfl) _ _ 25 4 (.bool false) 1 (by rfl) Try.underlying25 info_bl1 rfl (by decide) (by rfl) (by rfl) ?_
        refine hKK.out _ _ (Or.inr trivial) ?_
        clear hKK KK
        (try simp only [Act.put, List.setIfInBounds_toArray, List.set_cons_zero, List.set_cons_succ])
        have hb : Below w20.heap.size w20 (w20.alloc (.cells #[.bool false, .bool false] 4)) := (Below.refl _ _).alloc (Nat.le_refl _) _
        have ho : Own (w20.alloc (.cells #[.bool false, .bool false] 4)) w20.heap.size (w20.alloc (.cells #[.bool false, .bool false] 4)).heap.size (bls 4) [false, false] [.slice (some ⟨w20.heap.size, 0, none⟩) 2 2] := made_two w20 4 .bool false (.bool false) (fun W => ⟨rfl, rfl⟩)
        generalize hWW : (w20.alloc (.cells #[.bool false, .bool false] 4)) = w350 at hb ho ⊢
        clear hWW
        obtain ⟨hX4, ehX4⟩ : ∃ x, x = w20.heap.size := ⟨_, rfl⟩
        obtain ⟨tX4, etX4⟩ : ∃ x, x = w350.heap.size := ⟨_, rfl⟩
        have lRX4 : w.heap.size < hX4 := by rw [ehX4]; exact zR
        have mX4 : hX4 ≤ tX4 := by rw [ehX4, etX4]; exact hb.size
        have rX1X4 : t1 ≤ hX4 := by rw [ehX4]; exact lX1
        replace kR := bx_below kR zR hb
        replace fR := bxF fR hb zR
        replace zR := Nat.lt_of_lt_of_le zR hb.size
        replace X1 : Hid (Own w350 m t1 shConnsO [nconn 0 a (-1), nconn 1 b (-1)] [.slice va 2 vc]) := Own.below X1.out (by omega) hb
        replace lX1 : t1 ≤ w350.heap.size := Nat.le_trans lX1 hb.size
        replace HB : Hid (Below w.heap.size w w350) := HB.out.trans (hb.mono HB.out.size)
        clear hb
        rw [← ehX4] at ho ⊢; rw [← etX4] at ho
        have lX4 : tX4 ≤ w350.heap.size := by omega
        have X4 : Hid (Own w350 hX4 tX4 (bls 4) [false, false] [.slice (some ⟨hX4, 0, none⟩) 2 2]) := ho
        clear ho ehX4 etX4
        refine Goes.all (rs := [2, 3]) (by kernel_rfl) (by simp) ?_
        refine (Ups.cons (i := 2) (o := ?oo360) ?ho360 (fun KK hKK => ?stp360) (Ups.cons (i := 3) (o := ?oo361) ?ho361 (fun KK hKK => ?stp361) Ups.nil))
        case ho360 => (simp only [List.getElem?_toArray, List.getElem?_cons_succ, List.getElem?_cons_zero] <;> rfl)
        case ho361 => (simp only [List.getElem?_toArray, List.getElem?_cons_succ, List.getElem?_cons_zero] <;> rfl)
        case stp360 =>
          go_simp
          go_at_call 12
          refine (HCB.out _).mono ?_
          rintro e' w370 ⟨N, rfl, hnp, hb⟩
          obtain ⟨n1, n2, m1, m2, eN, ho⟩ := net_two hnp
          subst eN
          clear hnp
          dsimp only
          refine hKK.out _ _ (Or.inr trivial) ?_
          clear hKK KK
          (try simp only [Act.put, List.setIfInBounds_toArray, List.set_cons_zero, List.set_cons_succ])
          obtain ⟨hX2, ehX2⟩ : ∃ x, x = w350.heap.size := ⟨_, rfl⟩
          obtain ⟨tX2, etX2⟩ : ∃ x, x = w370.heap.size := ⟨_, rfl⟩
          have lRX2 : w.heap.size < hX2 := by rw [ehX2]; exact zR
          have mX2 : hX2 ≤ tX2 := by rw [ehX2, etX2]; exact hb.size
          have rX1X2 : t1 ≤ hX2 := by rw [ehX2]; exact lX1
          have rX4X2 : tX4 ≤ hX2 := by rw [ehX2]; exact lX4
          replace kR := bx_below kR zR hb
          replace fR := bxF fR hb zR
          replace zR := Nat.lt_of_lt_of_le zR hb.size
          replace X1 : Hid (Own w370 m t1 shConnsO [nconn 0 a (-1), nconn 1 b (-1)] [.slice va 2 vc]) := Own.below X1.out (by omega) hb
          replace lX1 : t1 ≤ w370.heap.size := Nat.le_trans lX1 hb.size
          replace X4 : Hid (Own w370 hX4 tX4 (bls 4) [false, false] [.slice (some ⟨hX4, 0, none⟩) 2 2]) := Own.below X4.out (by omega) hb
          replace lX4 : tX4 ≤ w370.heap.size := Nat.le_trans lX4 hb.size
          replace HB : Hid (Below w.heap.size w w370) := HB.out.trans (hb.mono HB.out.size)
          clear hb
          rw [← ehX2, ← etX2] at ho
          have lX2 : tX2 ≤ w370.heap.size := by omega
          have X2 : Hid (Own w370 hX2 tX2 (shNetT 50) ([], [false, false, false], ()) [.slice n1 0 m1, .slice n2 3 m2]) := ho
          clear ho ehX2 etX2
          refine Goes.all (rs := [3]) (by kernel_rfl) (by simp) ?_
          refine (Ups.cons (i := 3) (o := ?oo380) ?ho380 (fun KK hKK => ?stp380) Ups.nil)
          case ho380 => (simp only [List.getElem?_toArray, List.getElem?_cons_succ, List.getElem?_cons_zero] <;> rfl)
          case stp380 =>
            refine make2_st w370 (by rfl) _ _ 28 22 (.slice none 0 0) 24 (by rfl) Try.underlying28 info_bsY rfl (by decide) (by rfl) (by rfl) ?_
            refine hKK.out _ _ (Or.inr trivial) ?_
            clear hKK KK
            (try simp only [Act.put, List.setIfInBounds_toArray, List.set_cons_zero, List.set_cons_succ])
            have hb : Below w370.heap.size w370 (w370.alloc (.cells #[.slice none 0 0, .slice none 0 0] 22)) := (Below.refl _ _).alloc (Nat.le_refl _) _
            have ho : Own (w370.alloc (.cells #[.slice none 0 0, .slice none 0 0] 22)) w370.heap.size (w370.alloc (.cells #[.slice none 0 0, .slice none 0 0] 22)).heap.size shBss [[], []] [.slice (some ⟨w370.heap.size, 0, none⟩) 2 2] := made_two w370 22 u8s ([] : List Int) (.slice none 0 0) (fun W => Or.inl ⟨rfl, rfl, rfl⟩)
            generalize hWW : (w370.alloc (.cells #[.slice none 0 0, .slice none 0 0] 22)) = w390 at hb ho ⊢
            clear hWW
            obtain ⟨hX3, ehX3⟩ : ∃ x, x = w370.heap.size := ⟨_, rfl⟩
            obtain ⟨tX3, etX3⟩ : ∃ x, x = w390.heap.size := ⟨_, rfl⟩
            have lRX3 : w.heap.size < hX3 := by rw [ehX3]; exact zR
            have mX3 : hX3 ≤ tX3 := by rw [ehX3, etX3]; exact hb.size
            have rX1X3 : t1 ≤ hX3 := by rw [ehX3]; exact lX1
            have rX4X3 : tX4 ≤ hX3 := by rw [ehX3]; exact lX4
            have rX2X3 : tX2 ≤ hX3 := by rw [ehX3]; exact lX2
            replace kR := bx_below kR zR hb
            replace fR := bxF fR hb zR
            replace zR := Nat.lt_of_lt_of_le zR hb.size
            replace X1 : Hid (Own w390 m t1 shConnsO [nconn 0 a (-1), nconn 1 b (-1)] [.slice va 2 vc]) := Own.below X1.out (by omega) hb
            replace lX1 : t1 ≤ w390.heap.size := Nat.le_trans lX1 hb.size
            replace X4 : Hid (Own w390 hX4 tX4 (bls 4) [false, false] [.slice (some ⟨hX4, 0, none⟩) 2 2]) := Own.below X4.out (by omega) hb
            replace lX4 : tX4 ≤ w390.heap.size := Nat.le_trans lX4 hb.size
            replace X2 : Hid (Own w390 hX2 tX2 (shNetT 50) ([], [false, false, false], ()) [.slice n1 0 m1, .slice n2 3 m2]) := Own.below X2.out (by omega) hb
            replace lX2 : tX2 ≤ w390.heap.size := Nat.le_trans lX2 hb.size
            replace HB : Hid (Below w.heap.size w w390) := HB.out.trans (hb.mono HB.out.size)
            clear hb
            rw [← ehX3] at ho ⊢; rw [← etX3] at ho
            have lX3 : tX3 ≤ w390.heap.size := by omega
            have X3 : Hid (Own w390 hX3 tX3 shBss [[], []] [.slice (some ⟨hX3, 0, none⟩) 2 2]) := ho
            clear ho ehX3 etX3
            refine Goes.take (i := 5) (oi := ?oi401) (x := ?vx401) ?ho401 (by kernel_rfl) (by kernel_rfl) (by kernel_rfl) (by kernel_rfl) (fun _ _ _ h => h) (Or.inl ⟨?hw401, ?hy401⟩) trivial ?rest401
            case ho401 => (simp only [List.getElem?_toArray, List.getElem?_cons_succ, List.getElem?_cons_zero] <;> rfl)
            case hw401 => rfl
            case hy401 => (intro w' hSw; go_simp; (try with_reducible rfl))
            case rest401 =>
            (try simp only [Act.put, List.setIfInBounds_toArray, List.set_cons_zero, List.set_cons_succ])
            refine Goes.take (i := 6) (oi := ?oi402) (x := ?vx402) ?ho402 (by kernel_rfl) (by kernel_rfl) (by kernel_rfl) (by kernel_rfl) (fun _ _ _ h => h) (Or.inl ⟨?hw402, ?hy402⟩) trivial ?rest402
            case ho402 => (simp only [List.getElem?_toArray, List.getElem?_cons_succ, List.getElem?_cons_zero] <;> rfl)
            case hw402 => rfl
            case hy402 => (intro w' hSw; go_simp; (try with_reducible rfl))
            case rest402 =>
            (try simp only [Act.put, List.setIfInBounds_toArray, List.set_cons_zero, List.set_cons_succ])
            obtain ⟨N, hN⟩ : ∃ N : Array Value, N = #[.int .i64 0, .slice none 0 0, .int .i64 0, .slice va 2 vc, .slice n1 0 m1, .slice n2 3 m2, .slice (some ⟨hX3, 0, none⟩) 2 2, .slice (some ⟨hX4, 0, none⟩) 2 2] := ⟨_, rfl⟩
            have HN : Hid _ := hN
            have HNZ : Hid (N.size = 8) := by show _ = _; rw [hN]; rfl
            have HIN : Hid ((Try.prog.info? 32).map (·.size) = some N.size) := by show _ = _; rw [HNZ.out]; exact info_WRn
            have HONE : Hid (N.all (·.oneCell') = true) := by show _ = _; rw [hN]; simp [Value.oneCell']
            clear hN
            have HKR : Hid (∀ o, (w390.setCells w.heap.size 0 N.toList).cell? ⟨w.heap.size, o, none⟩ = N[o]?) := bx_setCells kR (by rw [HNZ.out]; rfl)
            refine Goes.all (rs := [7]) (by kernel_rfl) (by simp) ?_
            refine Ups.cons (i := 7) (o := ?oo411) ?ho411 (fun KK hKK => ?stp411) Ups.nil
            case ho411 => (simp only [List.getElem?_toArray, List.getElem?_cons_succ, List.getElem?_cons_zero] <;> rfl)
            case stp411 =>
            rw [if_pos (by rfl)]
            refine wp_store_mid 32 _ _ rfl _ _ N (by rfl) (by rw [HN.out]; rfl) (bx_there kR fR (by rw [HNZ.out]; rfl)) HIN.out HONE.out ?_
            refine hKK.out _ _ (Or.inl rfl) ?_
            clear hKK KK
            (try simp only [Act.put])
            refine Goes.done (by kernel_rfl) ?_ _
            refine NoPanic.normal ?_
            go_wp2_with fail
            refine bodyPost_ret (results_box Try.results5 _ _ _ N _ (by rfl) HKR.out Try.underlying32 rfl HIN.out) rfl ⟨N, rfl, ?_, setCells_below (by omega) _ _ _ _ HB.out⟩
            rw [setCells_size, HN.out, HV.out]
            have h := own_WR (t := 50) (lo := w.heap.size + 1) (m := w.heap.size + 1) (hi := w390.heap.size) (q := 0) (s := []) (u := .slice none 0 0) (by decide) ⟨[], zero_ow _ u8s, by simp, by simp⟩ (own_W4 (lo := w.heap.size + 1) (hi := w390.heap.size) (y0 := 0) (by decide) X1.out X2.out X3.out X4.out (by omega) (by omega) (by omega) (by omega) (by omega) (by omega) (by omega) (by omega) (by omega) (by omega) (by omega) (by omega) (by omega) (by omega)) (Nat.le_refl _) (by omega)
            exact Own.mono (Own.keep h (fun b h1 h2 => setCells_block (by omega) _ _ _)) (by omega) (Nat.le_refl _)
        case stp361 =>
          refine make2_st w350 (by rfl) _ _ 28 22 (.slice none 0 0) 24 (by rfl) Try.underlying28 info_bsY rfl (by decide) (by rfl) (by rfl) ?_
          refine hKK.out _ _ (Or.inr trivial) ?_
          clear hKK KK
          (try simp only [Act.put, List.setIfInBounds_toArray, List.set_cons_zero, List.set_cons_succ])
          have hb : Below w350.heap.size w350 (w350.alloc (.cells #[.slice none 0 0, .slice none 0 0] 22)) := (Below.refl _ _).alloc (Nat.le_refl _) _
          have ho : Own (w350.alloc (.cells #[.slice none 0 0, .slice none 0 0] 22)) w350.heap.size (w350.alloc (.cells #[.slice none 0 0, .slice none 0 0] 22)).heap.size shBss [[], []] [.slice (some ⟨w350.heap.size, 0, none⟩) 2 2] := made_two w350 22 u8s ([] : List Int) (.slice none 0 0) (fun W => Or.inl ⟨rfl, rfl, rfl⟩)
          generalize hWW : (w350.alloc (.cells #[.slice none 0 0, .slice none 0 0] 22)) = w420 at hb ho ⊢
          clear hWW
          obtain ⟨hX3, ehX3⟩ : ∃ x, x = w350.heap.size := ⟨_, rfl⟩
          obtain ⟨tX3, etX3⟩ : ∃ x, x = w420.heap.size := ⟨_, rfl⟩
          have lRX3 : w.heap.size < hX3 := by rw [ehX3]; exact zR
          have mX3 : hX3 ≤ tX3 := by rw [ehX3, etX3]; exact hb.size
          have rX1X3 : t1 ≤ hX3 := by rw [ehX3]; exact lX1
          have rX4X3 : tX4 ≤ hX3 := by rw [ehX3]; exact lX4
          replace kR := bx_below kR zR hb
          replace fR := bxF fR hb zR
          replace zR := Nat.lt_of_lt_of_le zR hb.size
          replace X1 : Hid (Own w420 m t1 shConnsO [nconn 0 a (-1), nconn 1 b (-1)] [.slice va 2 vc]) := Own.below X1.out (by omega) hb
          replace lX1 : t1 ≤ w420.heap.size := Nat.le_trans lX1 hb.size
          replace X4 : Hid (Own w420 hX4 tX4 (bls 4) [false, false] [.slice (some ⟨hX4, 0, none⟩) 2 2]) := Own.below X4.out (by omega) hb
          replace lX4 : tX4 ≤ w420.heap.size := Nat.le_trans lX4 hb.size
          replace HB : Hid (Below w.heap.size w w420) := HB.out.trans (hb.mono HB.out.size)
          clear hb
          rw [← ehX3] at ho ⊢; rw [← etX3] at ho
          have lX3 : tX3 ≤ w420.heap.size := by omega
          have X3 : Hid (Own w420 hX3 tX3 shBss [[], []] [.slice (some ⟨hX3, 0, none⟩) 2 2]) := ho
          clear ho ehX3 etX3
          refine Goes.all (rs := [2]) (by kernel_rfl) (by simp) ?_
          refine (Ups.cons (i := 2) (o := ?oo430) ?ho430 (fun KK hKK => ?stp430) Ups.nil)
          case ho430 => (simp only [List.getElem?_toArray, List.getElem?_cons_succ, List.getElem?_cons_zero] <;> rfl)
          case stp430 =>
            go_simp
            go_at_call 12
            refine (HCB.out _).mono ?_
            rintro e' w440 ⟨N, rfl, hnp, hb⟩
            obtain ⟨n1, n2, m1, m2, eN, ho⟩ := net_two hnp
            subst eN
            clear hnp
            dsimp only
            refine hKK.out _ _ (Or.inr trivial) ?_
            clear hKK KK
            (try simp only [Act.put, List.setIfInBounds_toArray, List.set_cons_zero, List.set_cons_succ])
            obtain ⟨hX2, ehX2⟩ : ∃ x, x = w420.heap.size := ⟨_, rfl⟩
            obtain ⟨tX2, etX2⟩ : ∃ x, x = w440.heap.size := ⟨_, rfl⟩
            have lRX2 : w.heap.size < hX2 := by rw [ehX2]; exact zR
            have mX2 : hX2 ≤ tX2 := by rw [ehX2, etX2]; exact hb.size
            have rX1X2 : t1 ≤ hX2 := by rw [ehX2]; exact lX1
            have rX4X2 : tX4 ≤ hX2 := by rw [ehX2]; exact lX4
            have rX3X2 : tX3 ≤ hX2 := by rw [ehX2]; exact lX3
            replace kR := bx_below kR zR hb
            replace fR := bxF fR hb zR
            replace zR := Nat.lt_of_lt_of_le zR hb.size
            replace X1 : Hid (Own w440 m t1 shConnsO [nconn 0 a (-1), nconn 1 b (-1)] [.slice va 2 vc]) := Own.below X1.out (by omega) hb
            replace lX1 : t1 ≤ w440.heap.size := Nat.le_trans lX1 hb.size
            replace X4 : Hid (Own w440 hX4 tX4 (bls 4) [false, false] [.slice (some ⟨hX4, 0, none⟩) 2 2]) := Own.below X4.out (by omega) hb
            replace lX4 : tX4 ≤ w440.heap.size := Nat.le_trans lX4 hb.size
            replace X3 : Hid (Own w440 hX3 tX3 shBss [[], []] [.slice (some ⟨hX3, 0, none⟩) 2 2]) := Own.below X3.out (by omega) hb
            replace lX3 : tX3 ≤ w440.heap.size := Nat.le_trans lX3 hb.size
            replace HB : Hid (Below w.heap.size w w440) := HB.out.trans (hb.mono HB.out.size)
            clear hb
            rw [← ehX2, ← etX2] at ho
            have lX2 : tX2 ≤ w440.heap.size := by omega
            have X2 : Hid (Own w440 hX2 tX2 (shNetT 50) ([], [false, false, false], ()) [.slice n1 0 m1, .slice n2 3 m2]) := ho
            clear ho ehX2 etX2
            refine Goes.take (i := 5) (oi := ?oi451) (x := ?vx451) ?ho451 (by kernel_rfl) (by kernel_rfl) (by kernel_rfl) (by kernel_rfl) (fun _ _ _ h => h) (Or.inl ⟨?hw451, ?hy451⟩) trivial ?rest451
            case ho451 => (simp only [List.getElem?_toArray, List.getElem?_cons_succ, List.getElem?_cons_zero] <;> rfl)
            case hw451 => rfl
            case hy451 => (intro w' hSw; go_simp; (try with_reducible rfl))
            case rest451 =>
            (try simp only [Act.put, List.setIfInBounds_toArray, List.set_cons_zero, List.set_cons_succ])
            refine Goes.take (i := 6) (oi := ?oi452) (x := ?vx452) ?ho452 (by kernel_rfl) (by kernel_rfl) (by kernel_rfl) (by kernel_rfl) (fun _ _ _ h => h) (Or.inl ⟨?hw452, ?hy452⟩) trivial ?rest452
            case ho452 => (simp only [List.getElem?_toArray, List.getElem?_cons_succ, List.getElem?_cons_zero] <;> rfl)
            case hw452 => rfl
            case hy452 => (intro w' hSw; go_simp; (try with_reducible rfl))
            case rest452 =>
            (try simp only [Act.put, List.setIfInBounds_toArray, List.set_cons_zero, List.set_cons_succ])
            obtain ⟨N, hN⟩ : ∃ N : Array Value, N = #[.int .i64 0, .slice none 0 0, .int .i64 0, .slice va 2 vc, .slice n1 0 m1, .slice n2 3 m2, .slice (some ⟨hX3, 0, none⟩) 2 2, .slice (some ⟨hX4, 0, none⟩) 2 2] := ⟨_, rfl⟩
            have HN : Hid _ := hN
            have HNZ : Hid (N.size = 8) := by show _ = _; rw [hN]; rfl
            have HIN : Hid ((Try.prog.info? 32).map (·.size) = some N.size) := by show _ = _; rw [HNZ.out]; exact info_WRn
            have HONE : Hid (N.all (·.oneCell') = true) := by show _ = _; rw [hN]; simp [Value.oneCell']
            clear hN
            have HKR : Hid (∀ o, (w440.setCells w.heap.size 0 N.toList).cell? ⟨w.heap.size, o, none⟩ = N[o]?) := bx_setCells kR (by rw [HNZ.out]; rfl)
            refine Goes.all (rs := [7]) (by kernel_rfl) (by simp) ?_
            refine Ups.cons (i := 7) (o := ?oo461) ?ho461 (fun KK hKK => ?stp461) Ups.nil
            case ho461 => (simp only [List.getElem?_toArray, List.getElem?_cons_succ, List.getElem?_cons_zero] <;> rfl)
            case stp461 =>
            rw [if_pos (by rfl)]
            refine wp_store_mid 32 _ _ rfl _ _ N (by rfl) (by rw [HN.out]; rfl) (bx_there kR fR (by rw [HNZ.out]; rfl)) HIN.out HONE.out ?_
            refine hKK.out _ _ (Or.inl rfl) ?_
            clear hKK KK
            (try simp only [Act.put])
            refine Goes.done (by kernel_rfl) ?_ _
            refine NoPanic.normal ?_
            go_wp2_with fail
            refine bodyPost_ret (results_box Try.results5 _ _ _ N _ (by rfl) HKR.out Try.underlying32 rfl HIN.out) rfl ⟨N, rfl, ?_, setCells_below (by omega) _ _ _ _ HB.out⟩
            rw [setCells_size, HN.out, HV.out]
            have h := own_WR (t := 50) (lo := w.heap.size + 1) (m := w.heap.size + 1) (hi := w440.heap.size) (q := 0) (s := []) (u := .slice none 0 0) (by decide) ⟨[], zero_ow _ u8s, by simp, by simp⟩ (own_W4 (lo := w.heap.size + 1) (hi := w440.heap.size) (y0 := 0) (by decide) X1.out X2.out X3.out X4.out (by omega) (by omega) (by omega) (by omega) (by omega) (by omega) (by omega) (by omega) (by omega) (by omega) (by omega) (by omega) (by omega) (by omega)) (Nat.le_refl _) (by omega)
            exact Own.mono (Own.keep h (fun b h1 h2 => setCells_block (by omega) _ _ _)) (by omega) (Nat.le_refl _)
end Go.Proofs.Ytcbgedlckcjjnaa
