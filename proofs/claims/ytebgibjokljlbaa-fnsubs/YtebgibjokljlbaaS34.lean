/- What the program answers where a sender is told up to where all came; nothing that was in memory turns; no condition but that loads are of at most a million bytes. -/
import Derived.Test.YtebgibjokljlbaaRows
import Derived.Deep.RegionHeld3
import Derived.Deep.CutRange
import Derived.Deep.RegionLaw
import Derived.Deep.DeepCutAuto
import Derived.Test.YtebgibjokljlbaaS01
import Derived.Test.YtebgibjokljlbaaS03
import Derived.Test.YtebgibjokljlbaaS04
import Derived.Test.YtebgibjokljlbaaS05
import Derived.Test.YtebgibjokljlbaaS06
import Derived.Test.YtebgibjokljlbaaS20
import Derived.Test.YtebgibjokljlbaaS25
import Derived.Test.YtebgibjokljlbaaS29
import Derived.Test.YtebgibjokljlbaaS31
import Derived.Test.YtebgibjokljlbaaS32
import Derived.Test.YtebgibjokljlbaaS33
namespace Go.Proofs.Ytebgibjokljlbaa
open Go.RowKit
set_option linter.unusedVariables false
set_option maxRecDepth 4000 in
set_option maxHeartbeats 8000000 in
theorem iAckSender (x : DSender) (v : Value) (ack : Int) (w : World) (B : Nat) (hr : shSender.Rd w B x [.int .i64 x.1, .int .i64 x.2.1, .int .i64 x.2.2.1, v]) (hB : B ≤ w.heap.size) (hT : totSender x ≤ 1048576) :
    Calls Try.prog 116 #[.agg #[.int .i64 x.1, .int .i64 x.2.1, .int .i64 x.2.2.1, v], .int .i64 ack] w fun e w' => ∃ u, e = .returned (.agg #[.int .i64 (ackC x ack), .int .i64 (ackV x ack).1, .int .i64 (ackV x ack).2.1, .int .i64 (ackV x ack).2.2.1, u]) ∧ Own w' w.heap.size w'.heap.size shSender (ackV x ack) [.int .i64 (ackV x ack).1, .int .i64 (ackV x ack).2.1, .int .i64 (ackV x ack).2.2.1, u] ∧ Below w.heap.size w w' := by
  obtain ⟨vv, ev, rk, wf0, wf1, wf2⟩ := rd_Sender hr
  simp only [List.cons.injEq, and_true, true_and] at ev
  subst ev
  obtain ⟨a, cap, ev2⟩ := row_form rk
  simp only [List.cons.injEq, and_true] at ev2
  subst ev2
  obtain ⟨F, hFx⟩ : ∃ F, F = sndFault x := ⟨_, rfl⟩
  have HC : Hid (∀ W, Below w.heap.size w W → Calls Try.prog 86 #[.agg #[.int .i64 x.1, .int .i64 x.2.1, .int .i64 x.2.2.1, .slice a x.2.2.2.1.length cap]] W fun e w' => e = .returned (.int .i64 F) ∧ Below W.heap.size W w') :=
    fun W hW => by rw [hFx]; exact iSenderFault x _ W B (Sh.Rd.below hr hB hW) (Nat.le_trans hB hW.size) hT
  by_cases hF : sndFault x = 0
  · obtain ⟨o1, o2, o3, o4⟩ := snd_ok hF
    have hF' : F = 0 := by rw [hFx]; exact hF
    subst hF'
    obtain ⟨b10, b11⟩ := inD_yes o1
    obtain ⟨b20, b21⟩ := inD_yes o2
    obtain ⟨b30, b31⟩ := inD_yes o3
    have eC : ackC x ack = ackC0 x ack := by unfold ackC; rw [if_pos hF]
    obtain ⟨P, hP⟩ : ∃ P, ackP x ack = P := ⟨_, rfl⟩
    obtain ⟨K, hK⟩ : ∃ K, ackK x ack = K := ⟨_, rfl⟩
    have HKC : Hid (unwC (wrp (ack + -x.1)) x.2.2.1 = K) := by show _ = _; rw [← hK]; exact (unw_modK (by unfold wrp; omega)).1
    have HPV : Hid (unwV (wrp (ack + -x.1)) x.2.2.1 = P) := by show _ = _; rw [← hP]; exact (unw_modK (by unfold wrp; omega)).2
    have HPB : Hid (K = 0 → 0 ≤ P ∧ P ≤ 1000032767) := fun h => by rw [← hP]; exact ackP_bd (by rw [hK]; exact h)
    have HC0 : Hid (ackC x ack = if K = 0 then (if x.2.1 < P then 3 else if x.2.2.2.1.any (ackCut P) = true then 1 else 0) else K) := by show _ = _; rw [eC]; unfold ackC0; rw [hP, hK]
    have HV0 : Hid (¬ ackC x ack = 0 → ackV x ack = zSnd) := fun h => by unfold ackV; rw [if_neg h]
    have HV1 : Hid (ackC x ack = 0 → ackV x ack = (x.1, x.2.1, if x.2.2.1 < P then P else x.2.2.1, x.2.2.2.1.filter (ackKeep P), ())) := fun h => by unfold ackV ackW; rw [if_pos h, hP]
    obtain ⟨VA, VN, VC, hcs, hvn, -⟩ := fl_cells rk
    have hbd := snd_bd hF
    have HHO : Hid (∀ W rb, Below w.heap.size w W → W.cell? ⟨rb, 1, none⟩ = some (.int .i64 P) → Calls Try.prog 94 #[.slice a x.2.2.2.1.length cap, .func (.func 138) #[] #[.pointer (some ⟨rb, 0, none⟩)]] W fun e w' => e = .returned (.bool (x.2.2.2.1.any (ackCut P))) ∧ Below W.heap.size W w') := fun W rb hW hc => by
      have hrb := cell_lt hc
      replace hrb : rb < W.heap.size := hrb
      refine iHasOne a x.2.2.2.1.length cap (by omega) (fun k => x.2.2.2.1[k].1) (fun k => x.2.2.2.1[k].2.1) (fun k => x.2.2.2.1[k].2.2.2.1) (fun k => x.2.2.2.1[k].2.2.2.2.1) VA VN VC 138 (enters_of Try.func138 (by kernel_rfl) rfl) #[.pointer (some ⟨rb, 0, none⟩)] (fun k => ackCut P x.2.2.2.1[k]) _ W (fun h => ?_) (fun h i => ?_) ((hcs.below (hW.mono hB)).mono (Nat.le_trans hB hW.size)) (fun W' k hW' => ?_)
      · obtain ⟨y, hy, h2⟩ := List.any_eq_true.1 h
        obtain ⟨i, hi, e⟩ := List.getElem_of_mem hy
        exact ⟨⟨i, hi⟩, by show ackCut P x.2.2.2.1[i] = true; rw [e]; exact h2⟩
      · have h3 := List.any_eq_false.1 h x.2.2.2.1[i] (List.getElem_mem _)
        simpa using h3
      · have hm := hbd x.2.2.2.1[k] (List.getElem_mem _)
        have h := iCut1 x.2.2.2.1[k].1 x.2.2.2.1[k].2.1 x.2.2.2.1[k].2.2.2.1 x.2.2.2.1[k].2.2.2.2.1 (VA k) (VN k) (VC k) rb P W' ((hW'.cell (p := ⟨rb, 1, none⟩) hrb).trans hc) (by omega) (by omega) (by rw [hvn k]; omega)
        rw [hvn k] at h ⊢
        exact h
    have HUP : Hid (∀ W, Below w.heap.size w W → 0 ≤ P → P ≤ 1000000 → Calls Try.prog 139 #[.agg #[.int .i64 x.1, .int .i64 x.2.1, .int .i64 x.2.2.1, .slice a x.2.2.2.1.length cap], .int .i64 P] W fun e w' => ∃ u, e = .returned (.agg #[.int .i64 x.1, .int .i64 x.2.1, .int .i64 (if x.2.2.1 < P then P else x.2.2.1), u]) ∧ Own w' W.heap.size w'.heap.size shFlights (x.2.2.2.1.filter (ackKeep P)) [u] ∧ Below W.heap.size W w') := fun W hW h0 h1 => iAckedUp x a cap P W B (hr.below hB hW) (Nat.le_trans hB hW.size) hT hF h0 h1
    have W0 : Hid _ := wf0
    have W1 : Hid _ := wf1
    obtain ⟨C0, hC0⟩ : ∃ C0, ackC x ack = C0 := ⟨_, rfl⟩
    obtain ⟨V, hV⟩ : ∃ V, ackV x ack = V := ⟨_, rfl⟩
    rw [hC0] at HC0 HV0 HV1
    rw [hV] at HV0 HV1
    rw [hC0, hV]
    clear hC0 hV hP hK hr rk hT hFx hF o1 o2 o3 wf0 wf1 wf2 eC hcs hvn hbd
    obtain ⟨y0, y1, y2, l, _⟩ := x
    simp only at *
    obtain ⟨n, hn⟩ : ∃ n, l.length = n := ⟨_, rfl⟩
    rw [hn] at HC HHO HUP ⊢
    obtain ⟨M, hM⟩ : ∃ M, (if y2 < P then P else y2) = M := ⟨_, rfl⟩
    obtain ⟨L', hL'⟩ : ∃ L', l.filter (ackKeep P) = L' := ⟨_, rfl⟩
    rw [hM, hL'] at HV1 HUP
    have HMB : Hid (0 ≤ P → P ≤ 1000000 → (Lit.int .i64 M).wf = true) := fun h1 h2 => by rw [← hM]; split <;> exact WalkArith.wf_i64 (by omega)
    clear hM hL'
    have WZ : IntKind.i64.wrap (-y0) = -y0 := by rw [IntKind.wrap_i64]; omega
    clear hn
    go_enter Try.func116, Try.ntmps116
    go_wp2_with fail
    refine (HC.out _ (by go_grown)).mono ?_
    rintro e w1 ⟨rfl, hb⟩
    have k1 := boxB (w := _) (fun o => (by simp [go_sem] : _ = (#[.int .i64 0, .int .i64 0, .int .i64 0, .int .i64 0, .slice none 0 0] : Array Value)[o]?)) hb (b := w.heap.size + 1) (by simp)
    have f1 : ∀ o, w1.frozen? ⟨w.heap.size + 1, o, none⟩ = false := boxF (w := _) (fun o => by simp [go_sem]) hb (by simp)
    have k0 := boxB (w := _) (fun o => (by simp [go_sem] : _ = (#[.int .i64 y0, .int .i64 y1, .int .i64 y2, .slice a n cap] : Array Value)[o]?)) hb (b := w.heap.size) (by simp; omega)
    have z1 : w.heap.size + 1 < w1.heap.size := by have := hb.size; simp at this; omega
    have HB : Hid (Below w.heap.size w w1) := Below.trans (by go_grown) (hb.mono (by simp; omega))
    clear hb HC
    have k00 := k0 0
    have k02 := k0 2
    simp only [List.getElem?_toArray, List.getElem?_cons_succ, List.getElem?_cons_zero] at k00 k02
    have zw : w.heap.size < w1.heap.size := by omega
    have hne : w1.heap.size ≠ w.heap.size := by omega
    have hne' : w.heap.size ≠ w1.heap.size := by omega
    go_upto_region 4 with fail
    go_cut [6] (fun u wx => ∃ rb, u = .pointer (some ⟨rb, 0, none⟩) ∧ (∀ o, wx.cell? ⟨rb, o, none⟩ = (#[.int .i64 K, .int .i64 P] : Array Value)[o]?) ∧ Hid (Below w1.heap.size w1 wx) ∧ w1.heap.size ≤ rb ∧ rb < wx.heap.size)
    case first =>
      go_region_held3 (fun w' => w'.cell? ⟨w.heap.size, 0, none⟩ = some (.int .i64 y0) ∧ w'.cell? ⟨w.heap.size, 2, none⟩ = some (.int .i64 y2)) (first | go_keep) ((first | (go_at_call 137; refine (iAdd _ _ _).mono ?_; rintro e w' ⟨rfl, hw⟩; subst w') | (go_at_call 136; refine (iUnwrap _ _ _).mono ?_; rintro e w2 ⟨rfl, hb2⟩; rw [HKC.out, HPV.out]; (first | (have hbx : Below w1.heap.size w1 w2 := (Below.drew (Below.refl _ _)).trans hb2) | (have hbx : Below w1.heap.size w1 w2 := (((Below.refl _ _).alloc (Nat.le_refl _) _).drew).trans (hb2.mono (by simp)); have kr : ∀ o, w2.cell? ⟨w1.heap.size, o, none⟩ = (#[.int .i64 0, .int .i64 0] : Array Value)[o]? := (fun o => (hb2.cell (p := ⟨w1.heap.size, o, none⟩) (by simp)).trans (by simp [go_sem])); have fr : ∀ o, w2.frozen? ⟨w1.heap.size, o, none⟩ = false := (fun o => (hb2.frozen (p := ⟨w1.heap.size, o, none⟩) (by simp)).trans (by simp [go_sem])))); have hd0 := (hbx.cell (p := ⟨w.heap.size, 0, none⟩) (by dsimp only; omega)).trans k00; have hd2 := (hbx.cell (p := ⟨w.heap.size, 2, none⟩) (by dsimp only; omega)).trans k02; have HBx : Hid (Below w1.heap.size w1 w2) := hbx; have hsz1 : w.heap.size < w2.heap.size := Nat.lt_of_lt_of_le zw hbx.size; clear hb2 hbx)))
      all_goals (go_wp2_with fail; go_meet)
      all_goals first
        | exact ⟨w2.heap.size, rfl, fun o => by simp [go_sem], HBx.out.alloc HBx.out.size _, HBx.out.size, by simp⟩
        | exact ⟨w1.heap.size, rfl, bx_two kr, (HBx.out.setCell (Nat.le_refl _) _).setCell (Nat.le_refl _) _, Nat.le_refl _, by have h : w1.heap.size < w2.heap.size := cell_lt (kr 0); simpa using h⟩
    case rest =>
      obtain ⟨rb, rfl, kR, HB2, hrb, hrb2⟩ := hcut
      have hzc := HB2.out.size
      have k0' := boxB k0 HB2.out (by omega)
      have k1' := boxB k1 HB2.out (by omega)
      have f1' := boxF f1 HB2.out (by omega)
      have HBc : Hid (Below w.heap.size w wc) := HB.out.trans (HB2.out.mono HB.out.size)
      clear k0 k1 f1 k00 k02 HB HB2 HKC HPV WZ
      by_cases hK0 : K = 0
      · subst hK0
        have hC := HC0.out
        rw [if_pos rfl] at hC
        obtain ⟨hp0, hp1⟩ := HPB.out rfl
        by_cases hPy : y1 < P
        · rw [if_pos hPy] at hC
          have hV := HV0.out (by omega)
          subst hC hV
          go_wp2_with fail
          refine bodyPost_ret (v := .agg #[.int .i64 3, .int .i64 0, .int .i64 0, .int .i64 0, .slice none 0 0]) (by simp [results, Try.results116, go_sem, k1']) rfl ⟨_, rfl, own_snd0 _ _ _ (by simp; omega) (WalkArith.wf_i64 (by omega)) (WalkArith.wf_i64 (by omega)) (WalkArith.wf_i64 (by omega)), ?_⟩
          have hB1 := HBc.out
          clear kR k0' k1' f1' HBc
          go_grown
        · rw [if_neg hPy] at hC
          have hCA := HHO.out wc rb HBc.out (kR 1)
          by_cases hany : l.any (ackCut P) = true
          · rw [if_pos hany] at hC
            rw [hany] at hCA
            have hV := HV0.out (by omega)
            subst hC hV
            go_wp2_with fail
            refine hCA.mono ?_
            rintro e w3 ⟨rfl, hb3⟩
            have k1c := boxB k1' hb3 (by omega)
            have f1c := boxF f1' hb3 (by omega)
            have HB3 : Hid (Below w.heap.size w w3) := HBc.out.trans (hb3.mono HBc.out.size)
            have z3 : w.heap.size + 1 < w3.heap.size := by have := hb3.size; omega
            clear hb3 hCA
            go_wp2_with fail
            refine bodyPost_ret (v := .agg #[.int .i64 1, .int .i64 0, .int .i64 0, .int .i64 0, .slice none 0 0]) (by simp [results, Try.results116, go_sem, k1c]) rfl ⟨_, rfl, own_snd0 _ _ _ (by simp; omega) (WalkArith.wf_i64 (by omega)) (WalkArith.wf_i64 (by omega)) (WalkArith.wf_i64 (by omega)), ?_⟩
            have hB1 := HB3.out
            clear kR k0' k1' f1' k1c f1c HBc HB3
            go_grown
          · rw [if_neg hany] at hC
            replace hany : l.any (ackCut P) = false := by simpa using hany
            rw [hany] at hCA
            have hV := HV1.out hC
            subst hC hV
            have HM : Hid ((Lit.int .i64 M).wf = true) := HMB.out hp0 (by omega)
            go_wp2_with fail
            refine hCA.mono ?_
            rintro e w3 ⟨rfl, hb3⟩
            have k0c := boxB k0' hb3 (by omega)
            have kRc := boxB kR hb3 hrb2
            have k1c := boxB k1' hb3 (by omega)
            have f1c := boxF f1' hb3 (by omega)
            have HB3 : Hid (Below w.heap.size w w3) := HBc.out.trans (hb3.mono HBc.out.size)
            have z3 : w.heap.size + 1 < w3.heap.size := by have := hb3.size; omega
            have z3' := hb3.size
            clear hb3 hCA k0' kR k1' f1' HBc
            go_wp2_with fail
            refine (HUP.out w3 HB3.out hp0 (by omega)).mono ?_
            rintro e w4 ⟨u, rfl, ho4, hb4⟩
            obtain ⟨ua, uc, eu⟩ := row_form (ho4.rd (Nat.le_refl _))
            simp only [List.cons.injEq, and_true] at eu
            subst eu
            have k1d := boxB k1c hb4 (by omega)
            have f1d := boxF f1c hb4 (by omega)
            have HB4 : Hid (Below w.heap.size w w4) := HB3.out.trans (hb4.mono HB3.out.size)
            have z4 : w3.heap.size ≤ w4.heap.size := hb4.size
            have HO4 : Hid _ := ho4
            clear ho4 hb4 k0c kRc k1c f1c HB3
            generalize L'.length = ln at *
            go_wp2_with fail
            refine bodyPost_ret (v := .agg #[.int .i64 0, .int .i64 y0, .int .i64 y1, .int .i64 M, .slice ua ln uc]) (by simp [results, Try.results116, go_sem, k1d]) rfl ⟨_, rfl, ?_, ?_⟩
            · have h2 : Own w4 w3.heap.size w4.heap.size shSender (y0, y1, M, L', ()) [.int .i64 y0, .int .i64 y1, .int .i64 M, .slice ua ln uc] := hOwnCons (hOwnInt w4 _ w3.heap.size W0.out) (hOwnCons (hOwnInt w4 _ w3.heap.size W1.out) (hOwnCons (hOwnInt w4 _ w3.heap.size HM.out) (hOwnCons HO4.out (hOwnNil _ _ _) (by omega) (Nat.le_refl _)) (Nat.le_refl _) (by omega)) (Nat.le_refl _) (by omega)) (Nat.le_refl _) (by omega)
              refine Own.mono (Own.keep h2 fun b hb hlt => ?_) (by omega) (by simp)
              repeat rw [Below.heap_setCell _ _ _ _ (by dsimp only; omega)]
            · have hB1 := HB4.out
              clear k1d f1d HO4 HB4
              go_grown
      · have hC := HC0.out
        rw [if_neg hK0] at hC
        have hV := HV0.out (by omega)
        subst hC hV
        have hK' : (C0 != 0) = true := by simp [hK0]
        go_wp2_with fail
        refine bodyPost_ret (v := .agg #[.int .i64 C0, .int .i64 0, .int .i64 0, .int .i64 0, .slice none 0 0]) (by simp [results, Try.results116, go_sem, k1']) rfl ⟨_, rfl, own_snd0 _ _ _ (by simp; omega) (WalkArith.wf_i64 (by omega)) (WalkArith.wf_i64 (by omega)) (WalkArith.wf_i64 (by omega)), ?_⟩
        have hB1 := HBc.out
        clear kR k0' k1' f1' HBc
        go_grown
  · have e1 : ackC x ack = F := by unfold ackC; rw [if_neg hF, hFx]
    have e2 : ackV x ack = zSnd := by unfold ackV; rw [e1, if_neg (by rw [hFx]; exact hF)]
    have hF' : (F != 0) = true := by rw [hFx]; simp [hF]
    rw [e1, e2]
    clear hr rk hT hF hFx e1 e2 wf0 wf1 wf2
    generalize x.1 = y0 at *
    generalize x.2.1 = y1 at *
    generalize x.2.2.1 = y2 at *
    generalize x.2.2.2.1.length = n at *
    go_enter Try.func116, Try.ntmps116
    go_wp2_with fail
    refine (HC.out _ (by go_grown)).mono ?_
    rintro e w1 ⟨rfl, hb⟩
    have k1 := boxB (w := _) (fun o => (by simp [go_sem] : _ = (#[.int .i64 0, .int .i64 0, .int .i64 0, .int .i64 0, .slice none 0 0] : Array Value)[o]?)) hb (b := w.heap.size + 1) (by simp)
    have f1 : ∀ o, w1.frozen? ⟨w.heap.size + 1, o, none⟩ = false := boxF (w := _) (fun o => by simp [go_sem]) hb (by simp)
    have k0 := boxB (w := _) (fun o => (by simp [go_sem] : _ = (#[.int .i64 y0, .int .i64 y1, .int .i64 y2, .slice a n cap] : Array Value)[o]?)) hb (b := w.heap.size) (by simp; omega)
    have z1 : w.heap.size + 1 < w1.heap.size := by have := hb.size; simp at this; omega
    have HB : Hid (Below w.heap.size w w1) := Below.trans (by go_grown) (hb.mono (by simp; omega))
    clear hb HC
    go_wp2_with fail
    refine bodyPost_ret (v := .agg #[.int .i64 F, .int .i64 0, .int .i64 0, .int .i64 0, .slice none 0 0]) (by simp [results, Try.results116, go_sem, k1]) rfl ⟨_, rfl, own_snd0 _ _ _ (by simp; omega) (WalkArith.wf_i64 (by omega)) (WalkArith.wf_i64 (by omega)) (WalkArith.wf_i64 (by omega)), ?_⟩
    have hB1 := HB.out
    clear k1 f1 k0 HB
    go_grown
end Go.Proofs.Ytebgibjokljlbaa
