/- l5Ack of a sender that lies six cells from the beginning of its block (a sub's); nothing that was in memory turns but that; a sender without a fault. Written by mkack6.py. -/
import Derived.Test.YtebgibjokljlbaaRows
import Derived.Deep.RegionHeld3
import Derived.Deep.CutRange
import Derived.Deep.RegionLaw
import Derived.Deep.DeepCutAuto
import Derived.Deep.DeepMust
import Derived.Test.YtebgibjokljlbaaS01
import Derived.Test.YtebgibjokljlbaaS03
import Derived.Test.YtebgibjokljlbaaS04
import Derived.Test.YtebgibjokljlbaaS05
import Derived.Test.YtebgibjokljlbaaS06
import Derived.Test.YtebgibjokljlbaaS08
namespace Go.Proofs.Ytebgibjokljlbaa
open Go.RowKit
set_option linter.unusedVariables false
theorem bx_set89 {w : World} {b : Nat} {p0 p1 p2 p3 p4 p5 x0 x1 x2 x3 q0 q1 q2 q3 q4 q5 u v : Value} (h : ∀ o, w.cell? ⟨b, o, none⟩ = (#[p0, p1, p2, p3, p4, p5, x0, x1, x2, x3, q0, q1, q2, q3, q4, q5] : Array Value)[o]?) : ∀ o, ((w.setCell ⟨b, 8, none⟩ u).setCell ⟨b, 9, none⟩ v).cell? ⟨b, o, none⟩ = (#[p0, p1, p2, p3, p4, p5, x0, x1, u, v, q0, q1, q2, q3, q4, q5] : Array Value)[o]? := fun o => by
  have j := bx_put (bx_put h (k := 8) (v := u) (by simp)) (k := 9) (v := v) (by simp)
  simp only [List.setIfInBounds_toArray, List.set_cons_zero, List.set_cons_succ] at j
  exact j o
set_option maxRecDepth 4000 in
set_option maxHeartbeats 8000000 in
theorem sL5Ack6 (p0 p1 p2 p3 p4 p5 q0 q1 q2 q3 q4 q5 : Value) (x : DSender) (a : Option Addr) (n cap sb : Nat) (ack : Int) (w : World) (lo hi : Nat) (hx : sndFault x = 0) (hn : x.2.2.2.1.length = n)
    (hc : ∀ o, w.cell? ⟨sb, o, none⟩ = (#[p0, p1, p2, p3, p4, p5, .int .i64 x.1, .int .i64 x.2.1, .int .i64 x.2.2.1, .slice a n cap, q0, q1, q2, q3, q4, q5] : Array Value)[o]?) (hf : ∀ o, w.frozen? ⟨sb, o, none⟩ = false)
    (ho : Own w lo hi shFlights x.2.2.2.1 [.slice a n cap]) (hlo : lo ≤ hi) (hhi : hi ≤ w.heap.size) (hsb : ¬ (lo ≤ sb ∧ sb < hi)) :
    Calls Try.prog 124 #[.pointer (some ⟨sb, 6, none⟩), .int .i64 ack] w fun e w' => e = .returned (.int .i64 (ackC0 x ack)) ∧ ∃ va vn vc, (∀ o, w'.cell? ⟨sb, o, none⟩ = (#[p0, p1, p2, p3, p4, p5, .int .i64 x.1, .int .i64 x.2.1, .int .i64 (ackD x ack).2.2.1, .slice va vn vc, q0, q1, q2, q3, q4, q5] : Array Value)[o]?) ∧ (∀ o, w'.frozen? ⟨sb, o, none⟩ = false) ∧
      Own w' lo w'.heap.size shFlights (ackD x ack).2.2.2.1 [.slice va vn vc] ∧ (∀ b, b < w.heap.size → b ≠ sb → w'.heap[b]? = w.heap[b]?) ∧ Below (min w.heap.size sb) w w' := by
  have hsz : sb < w.heap.size := cell_lt (hc 0)
  obtain ⟨o1, o2, o3, o4⟩ := snd_ok hx
  obtain ⟨b10, b11⟩ := inD_yes o1
  obtain ⟨b20, b21⟩ := inD_yes o2
  obtain ⟨b30, b31⟩ := inD_yes o3
  obtain ⟨P, hP⟩ : ∃ P, ackP x ack = P := ⟨_, rfl⟩
  obtain ⟨K, hK⟩ : ∃ K, ackK x ack = K := ⟨_, rfl⟩
  have HKC : Hid (unwC (wrp ack - x.1) x.2.2.1 = K) := by show _ = _; rw [← hK]; exact (unw_modK (by unfold wrp; omega)).1
  have HPV : Hid (unwV (wrp ack - x.1) x.2.2.1 = P) := by show _ = _; rw [← hP]; exact (unw_modK (by unfold wrp; omega)).2
  have HO : Hid _ := ho
  have HN : Hid _ := hn
  have HOld : Hid (∀ W, (∀ b, b < w.heap.size → W.heap[b]? = w.heap[b]?) → w.heap.size ≤ W.heap.size → Own W lo W.heap.size shFlights x.2.2.2.1 [.slice a n cap]) := fun W hW hz => Own.mono (Own.keep ho fun b h1 h2 => hW b (by omega)) (Nat.le_refl _) (by omega)
  have hwb := wrp_bd ack
  have WZ : IntKind.i64.wrap (wrp ack - x.1) = wrp ack - x.1 := by rw [IntKind.wrap_i64]; omega
  have HPB : Hid (K = 0 → 0 ≤ P ∧ P ≤ 1000032767) := fun h => by rw [← hP]; exact ackP_bd (by rw [hK]; exact h)
  have HC0 : Hid (ackC0 x ack = if K = 0 then (if x.2.1 < P then 3 else if x.2.2.2.1.any (ackCut P) = true then 1 else 0) else K) := by show _ = _; unfold ackC0; rw [hP, hK]
  have HD0 : Hid (¬ ackC0 x ack = 0 → ackD x ack = (x.1, x.2.1, x.2.2.1, x.2.2.2.1, ())) := fun h => by unfold ackD; rw [if_neg h]
  have HD1 : Hid (ackC0 x ack = 0 → P ≤ x.2.2.1 → ackD x ack = (x.1, x.2.1, x.2.2.1, x.2.2.2.1, ())) := fun h h2 => by unfold ackD; rw [if_pos h, ack_old hx (by rw [hP]; exact h2)]
  have HD2 : Hid (ackC0 x ack = 0 → x.2.2.1 < P → ackD x ack = (x.1, x.2.1, P, x.2.2.2.1.filter (ackKeep P), ())) := fun h h2 => by unfold ackD; rw [if_pos h]; unfold ackW; rw [hP, if_pos h2]
  have HBD : Hid (∀ y ∈ x.2.2.2.1, x.2.2.1 ≤ y.1 ∧ 1 ≤ y.2.2.1.length ∧ y.2.2.1.length ≤ 8 ∧ y.1 + y.2.2.1.length ≤ x.2.1) := snd_bd hx
  obtain ⟨C0, hC0⟩ : ∃ C0, ackC0 x ack = C0 := ⟨_, rfl⟩
  obtain ⟨D0, hD0⟩ : ∃ D0, ackD x ack = D0 := ⟨_, rfl⟩
  rw [hC0] at HC0 HD0 HD1 HD2
  rw [hD0] at HD0 HD1 HD2
  rw [hC0, hD0]
  clear hC0 hD0 hP hK hx o1 o2 o3 ho hn
  obtain ⟨y0, y1, y2, l, _⟩ := x
  simp only at *
  have hne : w.heap.size ≠ sb := by omega
  have hne' : sb ≠ w.heap.size := by omega
  have hc0 := hc 6
  have hc2 := hc 8
  simp only [List.getElem?_toArray, List.getElem?_cons_succ, List.getElem?_cons_zero] at hc0 hc2
  go_enter Try.func124, Try.ntmps124
  go_upto_region 1 with fail
  go_cut [5] (fun u wx => ∃ rb, u = .pointer (some ⟨rb, 0, none⟩) ∧ (∀ o, wx.cell? ⟨rb, o, none⟩ = (#[.int .i64 K, .int .i64 P] : Array Value)[o]?) ∧ Hid (Below w.heap.size w wx) ∧ w.heap.size ≤ rb ∧ rb < wx.heap.size)
  case first =>
    go_region_held3 (fun w' => w'.cell? ⟨sb, 6, none⟩ = some (.int .i64 y0) ∧ w'.cell? ⟨sb, 8, none⟩ = some (.int .i64 y2)) (first | go_keep) ((first | (go_at_call 113; refine (sWrap _ _).mono ?_; rintro e w' ⟨rfl, hw⟩; subst w') | (go_at_call 145; refine (sUnwrap _ _ _).mono ?_; rintro e w1 ⟨rfl, hb1⟩; rw [HKC.out, HPV.out]; (first | (have hbx : Below w.heap.size w w1 := (Below.drew (Below.refl _ _)).trans hb1) | (have hbx : Below w.heap.size w w1 := (((Below.refl _ _).alloc (Nat.le_refl _) _).drew).trans (hb1.mono (by simp)); have kr : ∀ o, w1.cell? ⟨w.heap.size, o, none⟩ = (#[.int .i64 0, .int .i64 0] : Array Value)[o]? := (fun o => (hb1.cell (p := ⟨w.heap.size, o, none⟩) (by simp)).trans (by simp [go_sem])); have fr : ∀ o, w1.frozen? ⟨w.heap.size, o, none⟩ = false := (fun o => (hb1.frozen (p := ⟨w.heap.size, o, none⟩) (by simp)).trans (by simp [go_sem])))); have hd0 := (hbx.cell (p := ⟨sb, 6, none⟩) hsz).trans hc0; have hd2 := (hbx.cell (p := ⟨sb, 8, none⟩) hsz).trans hc2; have HBx : Hid (Below w.heap.size w w1) := hbx; have hsz1 : sb < w1.heap.size := Nat.lt_of_lt_of_le hsz hbx.size; clear hb1 hbx)))
    all_goals (go_wp2_with fail; go_meet)
    all_goals first
      | exact ⟨w1.heap.size, rfl, fun o => by simp [go_sem], HBx.out.alloc HBx.out.size _, HBx.out.size, by simp⟩
      | exact ⟨w.heap.size, rfl, bx_twoA kr, (HBx.out.setCell (Nat.le_refl _) _).setCell (Nat.le_refl _) _, Nat.le_refl _, by have h : w.heap.size < w1.heap.size := cell_lt (kr 0); simpa using h⟩
  case rest =>
    obtain ⟨rb, rfl, kR, HB1, hrb, hrb2⟩ := hcut
    have kS : ∀ o, wc.cell? ⟨sb, o, none⟩ = (#[p0, p1, p2, p3, p4, p5, .int .i64 y0, .int .i64 y1, .int .i64 y2, .slice a n cap, q0, q1, q2, q3, q4, q5] : Array Value)[o]? := fun o => (HB1.out.cell (p := ⟨sb, o, none⟩) hsz).trans (hc o)
    have fS : ∀ o, wc.frozen? ⟨sb, o, none⟩ = false := fun o => (HB1.out.frozen (p := ⟨sb, o, none⟩) hsz).trans (hf o)
    have hzc := HB1.out.size
    have HOc : Hid (Own wc lo wc.heap.size shFlights l [.slice a n cap]) := HOld.out wc (fun b hb => HB1.out.block b hb) HB1.out.size
    clear hc hf hc0 hc2 WZ HKC HPV
    by_cases hK0 : K = 0
    · subst hK0
      have hC := HC0.out
      rw [if_pos rfl] at hC
      obtain ⟨hp0, hp1⟩ := HPB.out rfl
      by_cases hPy : y1 < P
      · rw [if_pos hPy] at hC
        have hD := HD0.out (by omega)
        subst hC hD
        go_upto_region 4 with fail
        have kR1 := kR 1
        have kS1 := kS 7
        simp only [List.getElem?_toArray, List.getElem?_cons_succ, List.getElem?_cons_zero] at kR1 kS1
        go_region_held3 (fun w' => w'.cell? ⟨rb, 1, none⟩ = some (.int .i64 P) ∧ w'.cell? ⟨sb, 7, none⟩ = some (.int .i64 y1)) (first | go_keep) (fail)
        go_wp2_with fail
        go_ret
        exact ⟨rfl, a, n, cap, fun o => by simpa using kS o, fun o => by simpa using fS o, Own.keep HOc.out (fun b _ _ => rfl), fun b hb _ => HB1.out.block b hb, (HB1.out.drew).mono (Nat.min_le_left _ _)⟩
      · rw [if_neg hPy] at hC
        go_upto_region 4 with fail
        have kR1 := kR 1
        have kS1 := kS 7
        simp only [List.getElem?_toArray, List.getElem?_cons_succ, List.getElem?_cons_zero] at kR1 kS1
        go_region_held3 (fun w' => w'.cell? ⟨rb, 1, none⟩ = some (.int .i64 P) ∧ w'.cell? ⟨sb, 7, none⟩ = some (.int .i64 y1)) (first | go_keep) (fail)
        go_wp2_with fail
        obtain ⟨zs, hz1, hz2, hz3, hz4⟩ := Own.row_zip HO.out
        have HZ1 : Hid (zs.map (·.1) = l) := hz1
        have HZ2 : Hid (((zs.map (·.2)).flatten).Nodup) := hz2
        have HZ3 : Hid (∀ b ∈ (zs.map (·.2)).flatten, lo ≤ b ∧ b < hi) := fun b hb => ⟨(hz3 b hb).1, (hz3 b hb).2.1⟩
        have HZ4 : Hid (∀ W, Below w.heap.size w W → RowZ W lo 118 shFlight zs (.slice a n cap)) := fun W hW => hz4.keep (fun b hb => hW.block b (by
          rcases hb with hb | ⟨_, hb⟩
          · have := (hz3 b hb).2.1; omega
          · have := (HO.out.blk hb).2; omega))
        have HZL : Hid (zs.length = n) := by
          have h : (zs.map (·.1)).length = l.length := by rw [hz1]
          rw [List.length_map] at h
          exact h.trans HN.out
        obtain ⟨ZF, hZF⟩ : ∃ ZF : Nat → List (DFlight × List Nat), ZF = fun k => (zs.take k).filter (fun z => ackKeep P z.1) := ⟨_, rfl⟩
        have HS1 : Hid (∀ k (hk : k < zs.length), ackKeep P zs[k].1 = true → ZF (k + 1) = ZF k ++ [zs[k]]) := fun k hk h => by rw [hZF]; simp only; rw [List.take_succ_eq_append_getElem hk, List.filter_append]; simp [h]
        have HS2 : Hid (∀ k (hk : k < zs.length), ackKeep P zs[k].1 = false → ZF (k + 1) = ZF k) := fun k hk h => by rw [hZF]; simp only; rw [List.take_succ_eq_append_getElem hk, List.filter_append]; simp [h]
        have HS3 : Hid (∀ k, ∀ b ∈ ((ZF k).map (·.2)).flatten, lo ≤ b ∧ b < hi) := fun k b hb => HZ3.out b (by
          rw [hZF] at hb
          exact (sub_flat ((List.filter_sublist.trans (List.take_sublist k zs)).map _)).subset hb)
        have HS4 : Hid (((ZF n).map (·.2)).flatten.Nodup) := by
          show List.Nodup _
          rw [hZF]
          exact (sub_flat ((List.filter_sublist.trans (List.take_sublist n zs)).map _)).nodup hz2
        have HS5 : Hid ((ZF n).map (·.1) = l.filter (ackKeep P)) := by
          show _ = _
          rw [hZF]; simp only
          rw [List.take_of_length_le (by rw [HZL.out]; exact Nat.le_refl _), ← HZ1.out, List.filter_map]; rfl
        have HS6 : Hid (∀ k, (ZF k).length ≤ 1000000) := fun k => by
          have h : (ZF k).length ≤ zs.length := by rw [hZF]; exact (List.filter_sublist.trans (List.take_sublist k zs)).length_le
          rw [HZL.out] at h; have := HN.out; omega
        have HZ0 : Hid (ZF 0 = []) := by show _ = _; rw [hZF]; rfl
        have HAT : Hid (∀ k (hk : k < zs.length), zs[k].1 ∈ l ∧ (l.take (k + 1)).any (ackCut P) = ((l.take k).any (ackCut P) || ackCut P zs[k].1)) := fun k hk => by
          have hkl : k < l.length := by rw [← hz1]; simpa using hk
          have e : zs[k].1 = l[k] := by simp only [← hz1, List.getElem_map]
          rw [e]
          refine ⟨List.getElem_mem hkl, ?_⟩
          rw [List.take_succ_eq_append_getElem hkl, List.any_append]; simp
        have HAN : Hid (∀ k, (l.take k).any (ackCut P) = true → l.any (ackCut P) = true) := fun k h => by
          obtain ⟨y, hy, h2⟩ := List.any_eq_true.1 h
          exact List.any_eq_true.2 ⟨y, List.mem_of_mem_take hy, h2⟩
        have HCC : Hid (C0 = if l.any (ackCut P) = true then 1 else 0) := hC
        have hn12 : n ≤ 12 := by have := HN.out; omega
        clear hz1 hz2 hz3 hz4 hZF hC
        go_loopw [6, 7] (fun t i wr => ∃ (k : Nat) (va : Option Addr) (vm vc : Nat), k ≤ n ∧ i = .int .i64 k ∧ t = .slice va vm vc ∧ Hid (RowZ wr wc.heap.size 118 shFlight (ZF k) (.slice va vm vc)) ∧ Hid (Below wc.heap.size wc wr) ∧ Hid ((l.take k).any (ackCut P) = false)) (fun _ i _ => n - (intOf i).toNat)
        case atStart =>
          refine ⟨0, _, _, _, Nat.zero_le _, rfl, rfl, ?_, ?_, by show _ = _; simp⟩
          · show RowZ _ _ _ _ _ _
            rw [HZ0.out]
            refine ⟨[], ?_, fun i hi => by simp at hi⟩
            exact World.ownsRow_made wc #[] 0 (Nat.le_refl _) (by decide) rfl
          · show Below _ _ _
            go_grown
        case round =>
          obtain ⟨k, va, vm, vc, hk, rfl, rfl, HR, HBr, HA⟩ := hrel
          have hzr := HBr.out.size
          have kR' : ∀ o, wr.cell? ⟨rb, o, none⟩ = (#[.int .i64 0, .int .i64 P] : Array Value)[o]? := fun o => (HBr.out.cell (p := ⟨rb, o, none⟩) hrb2).trans (kR o)
          have kS' : ∀ o, wr.cell? ⟨sb, o, none⟩ = (#[p0, p1, p2, p3, p4, p5, .int .i64 y0, .int .i64 y1, .int .i64 y2, .slice a n cap, q0, q1, q2, q3, q4, q5] : Array Value)[o]? := fun o => (HBr.out.cell (p := ⟨sb, o, none⟩) (by dsimp only; omega)).trans (kS o)
          have fS' : ∀ o, wr.frozen? ⟨sb, o, none⟩ = false := fun o => (HBr.out.frozen (p := ⟨sb, o, none⟩) (by dsimp only; omega)).trans (fS o)
          have hbr : rb < wr.heap.size := by omega
          have hbs : sb < wr.heap.size := by omega
          by_cases hlt : k < n
          · have hkz : k < zs.length := by have := HZL.out; omega
            obtain ⟨g, cap', cs, ev, hg1, hg2, hcell, hOw⟩ := RowZ.at (HZ4.out wr (HB1.out.trans (HBr.out.mono HB1.out.size))) (by decide) k hkz
            simp only [Value.slice.injEq] at ev
            obtain ⟨ea, -, -⟩ := ev
            subst ea
            obtain ⟨fv, ecs, hKb, wf0, wf1, wf3, wf4⟩ := ow_Flight hOw
            obtain ⟨fa, fc, efv⟩ := ow_row_form hKb
            subst efv ecs
            have q0 : wr.cell? ⟨g, k * 5, none⟩ = some (.int .i64 zs[k].1.1) := hcell 0 (by decide)
            have q1 : wr.cell? ⟨g, k * 5 + 1, none⟩ = some (.int .i64 zs[k].1.2.1) := hcell 1 (by decide)
            have q2 : wr.cell? ⟨g, k * 5 + 2, none⟩ = some (.slice fa zs[k].1.2.2.1.length fc) := hcell 2 (by decide)
            have q3 : wr.cell? ⟨g, k * 5 + 3, none⟩ = some (.int .i64 zs[k].1.2.2.2.1) := hcell 3 (by decide)
            have q4 : wr.cell? ⟨g, k * 5 + 4, none⟩ = some (.int .i64 zs[k].1.2.2.2.2.1) := hcell 4 (by decide)
            obtain ⟨hmem, hany⟩ := HAT.out k hkz
            obtain ⟨m1, m2, m3, m4⟩ := HBD.out _ hmem
            have HY := hid_mkA (HS1.out k hkz)
            have HNo := hid_mkA (HS2.out k hkz)
            have HOW : Hid (shFlight.Ow wr zs[k].2 zs[k].1 [.int .i64 zs[k].1.1, .int .i64 zs[k].1.2.1, .slice fa zs[k].1.2.2.1.length fc, .int .i64 zs[k].1.2.2.2.1, .int .i64 zs[k].1.2.2.2.2.1]) := hOw
            have HDB : Hid (∀ b ∈ zs[k].2, b < hi) := fun b hb => (HZ3.out b (List.mem_flatten.2 ⟨zs[k].2, List.mem_map.2 ⟨zs[k], List.getElem_mem hkz, rfl⟩, hb⟩)).2
            have HCU : Hid (ackCut P zs[k].1 = (decide (zs[k].1.1 < P) && decide (P < zs[k].1.1 + zs[k].1.2.2.1.length))) := rfl
            have HKE : Hid (ackKeep P zs[k].1 = decide (P < zs[k].1.1 + zs[k].1.2.2.1.length)) := rfl
            have HANY : Hid _ := hany
            have hkn : (k : Int) < (n : Int) := by omega
            clear hcell hOw hKb hmem hany wf0 wf1 wf3 wf4
            generalize hzk : zs[k] = z at *
            obtain ⟨⟨z0, z1, d, z3, z4, ⟨⟩⟩, bs⟩ := z
            simp only at *
            clear hzk
            generalize d.length = m at *
            by_cases hkp : P < z0 + (m : Int)
            · have hke := HKE.out
              rw [show decide (P < z0 + (m : Int)) = true from decide_eq_true hkp] at hke
              by_cases hct : z0 < P
              · have hcu := HCU.out
                rw [show decide (P < z0 + (m : Int)) = true from decide_eq_true hkp, show decide (z0 < P) = true from decide_eq_true hct] at hcu
                have hC1 := HCC.out
                have han := HANY.out
                rw [hcu] at han
                rw [if_pos (HAN.out (k + 1) (by rw [han]; simp))] at hC1
                have hD := HD0.out (by omega)
                subst hC1 hD
                clear hke hcu han
                have HBx : Hid (∀ b, b < w.heap.size → wr.heap[b]? = w.heap[b]?) := fun b hb => (HBr.out.block b (by omega)).trans (HB1.out.block b hb)
                have HOx : Hid (Own wr lo wr.heap.size shFlights l [.slice (some ⟨g, 0, none⟩) n cap]) := HOld.out wr HBx.out (by omega)
                go_wp2_with fail
                go_ret
                exact ⟨rfl, some ⟨g, 0, none⟩, n, cap, fun o => by rw [((Below.refl wr.heap.size wr).alloc (Nat.le_refl _) _).cell (p := ⟨sb, o, none⟩) hbs]; simpa using kS' o, fun o => by rw [((Below.refl wr.heap.size wr).alloc (Nat.le_refl _) _).frozen (p := ⟨sb, o, none⟩) hbs]; exact fS' o, Own.mono (HOx.out.below (Nat.le_refl _) ((Below.refl wr.heap.size wr).alloc (Nat.le_refl _) _)) (Nat.le_refl _) (by simp), fun b hb _ => (((Below.refl wr.heap.size wr).alloc (Nat.le_refl _) _).block b (by omega)).trans (HBx.out b hb), (((HB1.out.trans (HBr.out.mono HB1.out.size)).alloc (by omega) _)).mono (Nat.min_le_left _ _)⟩
              · have hcu := HCU.out
                rw [show decide (z0 < P) = false from decide_eq_false hct, Bool.false_and] at hcu
                have hct' : decide (z0 < P) = false := decide_eq_false hct
                have han := HANY.out
                rw [hcu, HA.out] at han
                have HA5 : Hid ((l.take (k + 1)).any (ackCut P) = false) := han
                have HZF := hid_mkA (HY.out hke)
                have HB8 : Hid (∀ b ∈ ((ZF k).map (·.2)).flatten, b < wc.heap.size) := fun b hb => by have := (HS3.out k b hb).2; omega
                have HR8 : Hid (RowZ (wr.alloc (.cells #[.int .i64 z0, .int .i64 z1, .slice fa m fc, .int .i64 z3, .int .i64 z4] 118)) wc.heap.size 118 shFlight (ZF k) (.slice va vm vc)) := HR.out.below (fun b hb => by have := HB8.out b hb; omega) ((Below.refl wr.heap.size wr).alloc (Nat.le_refl _) _)
                have HOW8 : Hid (shFlight.Ow (wr.alloc (.cells #[.int .i64 z0, .int .i64 z1, .slice fa m fc, .int .i64 z3, .int .i64 z4] 118)) bs (z0, z1, d, z3, z4, ()) [.int .i64 z0, .int .i64 z1, .slice fa m fc, .int .i64 z3, .int .i64 z4]) := Sh.Ow.keep _ _ _ _ (fun b hb => ((Below.refl wr.heap.size wr).alloc (Nat.le_refl _) _).block b (by have := HDB.out b hb; omega)) HOW.out
                have HDB8 : Hid (∀ b ∈ bs, b < wc.heap.size) := fun b hb => by have := HDB.out b hb; omega
                clear hke hcu han
                go_wp2_with (at_builtin; refine app_row (wr.alloc (.cells #[.int .i64 z0, .int .i64 z1, .slice fa m fc, .int .i64 z3, .int .i64 z4] 118)) (wr.heap.size + 1) (by simp) rfl _ _ 55 118 rfl shFlight (.agg #[.int .i64 0, .int .i64 0, .slice none 0 0, .int .i64 0, .int .i64 0]) 56 Try.underlying55 info_FlightS rfl (by decide) (by decide) wc.heap.size (ZF k) (.slice va vm vc) (by rfl) (by rfl) HR8.out HB8.out (z0, z1, d, z3, z4, ()) bs [.int .i64 z0, .int .i64 z1, .slice fa m fc, .int .i64 z3, .int .i64 z4] HOW8.out HDB8.out (HS6.out k) (by simp; omega) ?_; intro v5 w5 hr5 hb5 hk5 hs5; obtain ⟨va5, vc5, hv5⟩ := hr5.form; simp only [List.length_append, List.length_cons, List.length_nil, Nat.zero_add] at hv5; subst hv5; have HR5 : Hid _ := hr5; have HB5 : Hid (Below wc.heap.size wc w5) := (HBr.out.alloc hzr _).trans hb5; clear hr5 hb5 hk5 hs5)
                go_roundw
                case rel => exact ⟨k + 1, va5, _, vc5, by omega, by go_num, rfl, by show RowZ _ _ _ _ _ _; rw [HZF.out]; exact HR5.out, HB5, HA5⟩
                case measure => simp [intOf]; omega
            · have hke := HKE.out
              rw [show decide (P < z0 + (m : Int)) = false from decide_eq_false hkp] at hke
              have hcu := HCU.out
              rw [show decide (P < z0 + (m : Int)) = false from decide_eq_false hkp, Bool.and_false] at hcu
              have han := HANY.out
              rw [hcu, HA.out] at han
              have HA5 : Hid ((l.take (k + 1)).any (ackCut P) = false) := han
              have HZF := hid_mkA (HNo.out hke)
              have hct : z0 < P := Int.lt_of_lt_of_le (Int.lt_add_of_pos_right _ (by omega : (0 : Int) < (m : Int))) (Int.not_lt.1 hkp)
              have hkp' : decide (P < z0 + (m : Int)) = false := decide_eq_false hkp
              have HR8 : Hid (RowZ (wr.alloc (.cells #[.int .i64 z0, .int .i64 z1, .slice fa m fc, .int .i64 z3, .int .i64 z4] 118)) wc.heap.size 118 shFlight (ZF k) (.slice va vm vc)) := HR.out.below (fun b hb => by have := (HS3.out k b hb).2; omega) ((Below.refl wr.heap.size wr).alloc (Nat.le_refl _) _)
              clear hke hcu han
              go_wp2_with fail
              go_roundw
              case rel => exact ⟨k + 1, va, vm, vc, by omega, by go_num, rfl, by show RowZ _ _ _ _ _ _; rw [HZF.out]; exact HR8.out, HBr.out.alloc hzr _, HA5⟩
              case measure => simp [intOf]; omega
          · obtain rfl : k = n := by omega
            have hC1 := HCC.out
            rw [if_neg (by have h := HA.out; rw [← HN.out, List.take_length] at h; simp [h])] at hC1
            subst hC1
            have kR1' := kR' 1
            have kS2' := kS' 8
            simp only [List.getElem?_toArray, List.getElem?_cons_succ, List.getElem?_cons_zero] at kR1' kS2'
            by_cases hy : y2 < P
            · have hD := HD2.out rfl hy
              subst hD
              go_upto_region 16 with fail
              go_region_held3 (fun w' => w'.cell? ⟨rb, 1, none⟩ = some (.int .i64 P) ∧ w'.cell? ⟨sb, 8, none⟩ = some (.int .i64 y2)) (first | go_keep) (fail)
              go_wp2_with fail
              go_ret
              have HRf : RowZ ((wr.setCell ⟨sb, 8, none⟩ (.int .i64 P)).setCell ⟨sb, 9, none⟩ (.slice va vm vc)) wc.heap.size 118 shFlight (ZF k) (.slice va vm vc) := HR.out.keep (fun b hb => by
                have hbs' : b ≠ sb := by
                  rcases hb with hb | ⟨hb, _⟩
                  · have := HS3.out k b hb; omega
                  · omega
                rw [Below.heap_setCell _ _ _ _ (by simpa using hbs'), Below.heap_setCell _ _ _ _ (by simpa using hbs')])
              refine ⟨rfl, va, vm, vc, fun o => by simpa using bx_set89 kS' o, fun o => by simpa using fS' o, ?_, fun b hb hne' => ?_, ?_⟩
              · have h := HRf.own (lo := lo) HS4.out (fun b hb => by have := HS3.out k b hb; omega) (by omega) (by simpa using hzr)
                rw [HS5.out] at h
                exact Own.keep h (fun b _ _ => rfl)
              · show ((wr.setCell ⟨sb, 8, none⟩ (.int .i64 P)).setCell ⟨sb, 9, none⟩ (.slice va vm vc)).heap[b]? = _
                rw [Below.heap_setCell _ _ _ _ (by simpa using hne'), Below.heap_setCell _ _ _ _ (by simpa using hne')]
                exact (HBr.out.block b (by omega)).trans (HB1.out.block b hb)
              · exact (((((HB1.out.trans (HBr.out.mono HB1.out.size)).mono (Nat.min_le_left _ _)).setCell (p := ⟨sb, 8, none⟩) (Nat.min_le_right _ _) (.int .i64 P)).setCell (p := ⟨sb, 9, none⟩) (Nat.min_le_right _ _) (.slice va vm vc))).drew
            · have hD := HD1.out rfl (by omega)
              subst hD
              have HBx : Hid (∀ b, b < w.heap.size → wr.heap[b]? = w.heap[b]?) := fun b hb => (HBr.out.block b (by omega)).trans (HB1.out.block b hb)
              have HOx : Hid (Own wr lo wr.heap.size shFlights l [.slice a k cap]) := HOld.out wr HBx.out (by omega)
              go_upto_region 16 with fail
              go_region_held3 (fun w' => w'.cell? ⟨rb, 1, none⟩ = some (.int .i64 P) ∧ w'.cell? ⟨sb, 8, none⟩ = some (.int .i64 y2)) (first | go_keep) (fail)
              go_wp2_with fail
              go_ret
              exact ⟨rfl, a, k, cap, fun o => by simpa using kS' o, fun o => by simpa using fS' o, Own.keep HOx.out (fun b _ _ => rfl), fun b hb _ => HBx.out b hb, ((HB1.out.trans (HBr.out.mono HB1.out.size)).drew).mono (Nat.min_le_left _ _)⟩
    · have hC := HC0.out
      rw [if_neg hK0] at hC
      have hD := HD0.out (by omega)
      subst hC hD
      have hK' : (C0 != 0) = true := by simp [hK0]
      go_wp2_with fail
      go_ret
      exact ⟨rfl, a, n, cap, fun o => by simpa using kS o, fun o => by simpa using fS o, HOc.out, fun b hb _ => HB1.out.block b hb, HB1.out.mono (Nat.min_le_left _ _)⟩
end Go.Proofs.Ytebgibjokljlbaa
