/- What the model makes of a sender that is pushed a flight; nothing that was in memory turns; no condition but that loads are of at most a million bytes. -/
import Derived.Test.YtebgibjokljlbaaRows
import Derived.Deep.RegionHeld3
import Derived.Deep.CutRange
import Derived.Deep.RegionLaw
import Derived.Deep.DeepCutAuto
import Derived.Deep.DeepMust
import Derived.Test.YtebgibjokljlbaaS01
import Derived.Test.YtebgibjokljlbaaS02
import Derived.Test.YtebgibjokljlbaaS03
import Derived.Test.YtebgibjokljlbaaS04
import Derived.Test.YtebgibjokljlbaaS05
import Derived.Test.YtebgibjokljlbaaS06
namespace Go.Proofs.Ytebgibjokljlbaa
open Go.RowKit
set_option linter.unusedVariables false
set_option linter.unusedSimpArgs false
theorem sBad (c : Int) (w : World) :
    Calls Try.prog 150 #[.int .i64 c] w fun e w' => e = .returned (.agg #[.int .i64 c, .int .i64 0, .int .i64 0, .int .i64 0, .slice none 0 0]) ∧ Below w.heap.size w w' := by
  go_enter Try.func150, Try.ntmps150
  go_wp2_with fail
  go_returns
  exact ⟨rfl, by go_grown⟩
theorem own_fls {w : World} {lo hi : Nat} {y0 y1 y2 : Int} {l : List DFlight} {c0 c1 c2 v : Value} {u : Unit} (h : Own w lo hi shSender (y0, y1, y2, l, u) [c0, c1, c2, v]) : Own w lo hi shFlights l [v] := by
  obtain ⟨bs, h1, h2, h3⟩ := h
  obtain ⟨vv, ev, hk, -⟩ := ow_Sender h1
  simp only [List.cons.injEq, and_true] at ev
  rw [ev.2.2.2]
  exact ⟨bs, hk, h2, h3⟩
set_option maxHeartbeats 16000000 in
theorem sPushFlight (x : DSender) (v : Value) (data : Int) (ld : List Int) (vl : Value) (now : Int) (w : World) (B : Nat) (hr : shSender.Rd w B x [.int .i64 x.1, .int .i64 x.2.1, .int .i64 x.2.2.1, v]) (hr2 : u8s.Rd w B ld [vl]) (hB : B ≤ w.heap.size) (hT : totSender x ≤ 1048576) (hl : ld.length ≤ 1048576) (hwd : (Lit.int .i64 data).wf = true) (hwn : (Lit.int .i64 now).wf = true) :
    Calls Try.prog 133 #[.agg #[.int .i64 x.1, .int .i64 x.2.1, .int .i64 x.2.2.1, v], .int .i64 data, vl, .int .i64 now] w fun e w' => ∃ u, e = .returned (.agg #[.int .i64 (pshC x data ld now), .int .i64 (pshV x data ld now).1, .int .i64 (pshV x data ld now).2.1, .int .i64 (pshV x data ld now).2.2.1, u]) ∧ Own w' w.heap.size w'.heap.size shSender (pshV x data ld now) [.int .i64 (pshV x data ld now).1, .int .i64 (pshV x data ld now).2.1, .int .i64 (pshV x data ld now).2.2.1, u] ∧ Below w.heap.size w w' := by
  obtain ⟨vv, ev, rk, wf0, wf1, wf2⟩ := rd_Sender hr
  simp only [List.cons.injEq, and_true, true_and] at ev
  subst ev
  obtain ⟨a, cap, ev2⟩ := row_form rk
  simp only [List.cons.injEq, and_true] at ev2
  subst ev2
  obtain ⟨la, lc, el, rb, hnil, -⟩ := rd_bytes hr2
  simp only [List.cons.injEq, and_true] at el
  subst el
  obtain ⟨F, hFx⟩ : ∃ F, F = sndFault x := ⟨_, rfl⟩
  have HC : Hid (∀ W, Below w.heap.size w W → ∀ sb, (∀ o, W.cell? ⟨sb, o, none⟩ = (#[.int .i64 x.1, .int .i64 x.2.1, .int .i64 x.2.2.1, .slice a x.2.2.2.1.length cap] : Array Value)[o]?) → Calls Try.prog 119 #[.pointer (some ⟨sb, 0, none⟩)] W fun e w' => e = .returned (.int .i64 F) ∧ Below W.heap.size W w') :=
    fun W hW sb hc => by rw [hFx]; exact sL5Box x a _ cap W w 0 B rfl (Sh.Rd.below rk hB hW) (Nat.le_trans hB hW.size) hT sb hc
  have HCP : Hid (∀ W, Below w.heap.size w W → x.2.2.2.1.length ≤ 12 → Calls Try.prog 122 #[.agg #[.int .i64 x.1, .int .i64 x.2.1, .int .i64 x.2.2.1, .slice a x.2.2.2.1.length cap]] W fun e w' => ∃ u, e = .returned (.agg #[.int .i64 x.1, .int .i64 x.2.1, .int .i64 x.2.2.1, u]) ∧ Own w' W.heap.size w'.heap.size shSender x [.int .i64 x.1, .int .i64 x.2.1, .int .i64 x.2.2.1, u] ∧ Below W.heap.size W w') :=
    fun W hW h12 => sL5Copy x _ W B (hr.below hB hW) (Nat.le_trans hB hW.size) hT (by omega)
  have HRB : Hid (∀ W, Below w.heap.size w W → RB W la ld) := fun W hW => rb.below (Nat.le_refl _) hW
  have HNI : Hid (la = none → lc = 0) := hnil
  have W0 : Hid _ := wf0
  have W2 : Hid _ := wf2
  have WD : Hid _ := hwd
  have WN : Hid _ := hwn
  by_cases hF : sndFault x = 0
  · obtain ⟨o1, o2, o3, o4⟩ := snd_ok hF
    have b2 := inD_yes o2
    have hF' : F = 0 := by rw [hFx]; exact hF
    subst hF'
    by_cases hlod : lodD ld.length = true
    · have b8 := lodD_yes hlod
      by_cases hR : pshR x data ld.length now = true
      · by_cases h12 : 12 ≤ x.2.2.2.1.length
        · obtain ⟨e1, e2⟩ := psh_m hF hlod hR h12
          rw [e1, e2]
          have hR' := hR
          unfold pshR at hR'
          simp only [Bool.and_eq_true, decide_eq_true_eq] at hR'
          obtain ⟨⟨r1, r2⟩, r3⟩ := hR'
          clear hr rk hr2 rb hnil hT wf0 wf1 wf2 hwd hwn HCP HRB HNI e1 e2 hF hFx hR o1 o2 o3
          generalize x.1 = y0 at *
          generalize x.2.1 = y1 at *
          generalize x.2.2.1 = y2 at *
          generalize x.2.2.2.1.length = n at *
          generalize ld.length = m at *
          have h12' : (12 : Int) ≤ (n : Int) := by omega
          go_enter Try.func133, Try.ntmps133
          go_wp2_with fail
          refine (HC.out _ (by go_grown) w.heap.size (fun o => by simp [go_sem])).mono ?_
          rintro e w1 ⟨rfl, hb⟩
          have k1 := boxB (w := _) (fun o => (by simp [go_sem] : _ = (#[.int .i64 0, .int .i64 0, .int .i64 0, .int .i64 0, .slice none 0 0] : Array Value)[o]?)) hb (b := w.heap.size + 1) (by simp)
          have f1 : ∀ o, w1.frozen? ⟨w.heap.size + 1, o, none⟩ = false := boxF (w := _) (fun o => by simp [go_sem]) hb (by simp)
          have k0 := boxB (w := _) (fun o => (by simp [go_sem] : _ = (#[.int .i64 y0, .int .i64 y1, .int .i64 y2, .slice a n cap] : Array Value)[o]?)) hb (b := w.heap.size) (by simp; omega)
          have z1 : w.heap.size + 1 < w1.heap.size := by have := hb.size; simp at this; omega
          have HB : Hid (Below w.heap.size w w1) := Below.trans (by go_grown) (hb.mono (by simp; omega))
          clear hb HC
          go_wp2_with (first | (go_at_call 143; refine (sLodD _ _ _ _ (by omega)).mono ?_; rintro e w' ⟨rfl, hw⟩; subst w') | (go_at_call 47; refine (sPlcD _ _ _ (by omega)).mono ?_; rintro e w' ⟨rfl, hw⟩; subst w') | (go_at_call 118; refine (sTickD _ _).mono ?_; rintro e w' ⟨rfl, hw⟩; subst w'))
          refine (sBad _ _).mono ?_
          rintro e w2 ⟨rfl, hb⟩
          have k1' := boxB k1 hb (by omega)
          have f1' := boxF f1 hb (by omega)
          have HB2 : Hid (Below w.heap.size w w2) := HB.out.trans (hb.mono HB.out.size)
          have z2 : w.heap.size + 1 < w2.heap.size := Nat.lt_of_lt_of_le z1 hb.size
          clear hb k1 f1 k0 HB
          go_wp2_with fail
          refine bodyPost_ret (v := .agg #[.int .i64 2, .int .i64 0, .int .i64 0, .int .i64 0, .slice none 0 0]) (by simp [results, Try.results133, go_sem, k1']) rfl ⟨_, rfl, own_snd0 _ _ _ (by simp; omega) (WalkArith.wf_i64 (by omega)) (WalkArith.wf_i64 (by omega)) (WalkArith.wf_i64 (by omega)), ?_⟩
          have hB1 := HB2.out
          clear k1' f1' HB2
          go_grown
        · obtain ⟨e1, e2⟩ := psh_ok hF hlod hR h12
          have hR' := hR
          unfold pshR at hR'
          simp only [Bool.and_eq_true, decide_eq_true_eq] at hR'
          obtain ⟨⟨r1, r2⟩, r3⟩ := hR'
          have HT12 : Hid (x.2.2.2.1.length ≤ 12) := o4
          clear hr rk hr2 rb hnil hT wf0 wf1 wf2 hwd hwn hF hFx hR o1 o2 o3
          rw [e1, e2]
          clear e1 e2
          obtain ⟨y0, y1, y2, l, _⟩ := x
          simp only at *
          obtain ⟨n, hn⟩ : ∃ n, l.length = n := ⟨_, rfl⟩
          rw [hn] at HC HCP h12 HT12 ⊢
          have HN : Hid (l.length = n) := hn
          obtain ⟨m, hm⟩ : ∃ m, ld.length = m := ⟨_, rfl⟩
          rw [hm] at hlod b8 r1 r3 hl ⊢
          have HM : Hid (ld.length = m) := hm
          clear hn hm
          have h12' : ¬ ((12 : Int) ≤ (n : Int)) := by omega
          obtain ⟨b20, b21⟩ := b2
          go_enter Try.func133, Try.ntmps133
          go_wp2_with fail
          refine (HC.out _ (by go_grown) w.heap.size (fun o => by simp [go_sem])).mono ?_
          rintro e w1 ⟨rfl, hb⟩
          have k1 := boxB (w := _) (fun o => (by simp [go_sem] : _ = (#[.int .i64 0, .int .i64 0, .int .i64 0, .int .i64 0, .slice none 0 0] : Array Value)[o]?)) hb (b := w.heap.size + 1) (by simp)
          have f1 : ∀ o, w1.frozen? ⟨w.heap.size + 1, o, none⟩ = false := boxF (w := _) (fun o => by simp [go_sem]) hb (by simp)
          have k0 := boxB (w := _) (fun o => (by simp [go_sem] : _ = (#[.int .i64 y0, .int .i64 y1, .int .i64 y2, .slice a n cap] : Array Value)[o]?)) hb (b := w.heap.size) (by simp; omega)
          have z1 : w.heap.size + 1 < w1.heap.size := by have := hb.size; simp at this; omega
          have HB : Hid (Below w.heap.size w w1) := Below.trans (by go_grown) (hb.mono (by simp; omega))
          clear hb HC
          go_wp2_with (first | (go_at_call 143; refine (sLodD _ _ _ _ (by omega)).mono ?_; rintro e w' ⟨rfl, hw⟩; subst w') | (go_at_call 47; refine (sPlcD _ _ _ (by omega)).mono ?_; rintro e w' ⟨rfl, hw⟩; subst w') | (go_at_call 118; refine (sTickD _ _).mono ?_; rintro e w' ⟨rfl, hw⟩; subst w'))
          refine (HCP.out _ HB.out HT12.out).mono ?_
          rintro e w2 ⟨u, rfl, ho, hb⟩
          obtain ⟨vv, ev, ru, -⟩ := rd_Sender (ho.rd (Nat.le_refl _))
          simp only [List.cons.injEq, and_true, true_and] at ev
          subst ev
          obtain ⟨ca, cc, ev2⟩ := row_form ru
          simp only [List.cons.injEq, and_true] at ev2
          subst ev2
          have HOF : Hid (Own w2 w1.heap.size w2.heap.size shFlights l [.slice ca n cc]) := by
            have h := own_fls ho
            rw [HN.out] at h; exact h
          have k1' := boxB k1 hb (by omega)
          have f1' := boxF f1 hb (by omega)
          have k0' := boxB k0 hb (by omega)
          have HB2 : Hid (Below w.heap.size w w2) := HB.out.trans (hb.mono HB.out.size)
          have z2 : w1.heap.size ≤ w2.heap.size := hb.size
          rw [HN.out]
          clear hb k1 f1 k0 HB ho ru HCP
          go_upto_region 11 with fail
          obtain ⟨W, hW⟩ : ∃ W, W = w2.alloc (.cells #[.int .i64 y0, .int .i64 y1, .int .i64 y2, .slice ca n cc] 57) := ⟨_, rfl⟩
          rw [← hW]
          have hbW : Below w2.heap.size w2 W := by rw [hW]; exact (Below.refl _ _).alloc (Nat.le_refl _) _
          have q0 := boxB k0' hbW (by omega)
          have q1 := boxB k1' hbW (by omega)
          have g1 := boxF f1' hbW (by omega)
          have q2 : ∀ o, W.cell? ⟨w2.heap.size, o, none⟩ = (#[.int .i64 y0, .int .i64 y1, .int .i64 y2, .slice ca n cc] : Array Value)[o]? := fun o => by rw [hW]; simp
          have HQ2 : Hid (W.heap[w2.heap.size]? = some (.cells #[.int .i64 y0, .int .i64 y1, .int .i64 y2, .slice ca n cc] 57 (0, 0))) := by rw [hW]; exact heap_alloc_new _ _
          have HOW : Hid (Own W w1.heap.size w2.heap.size shFlights l [.slice ca n cc]) := HOF.out.below (Nat.le_refl _) hbW
          have zW1 : w2.heap.size < W.heap.size := by rw [hW]; simp
          have HBW : Hid (Below w.heap.size w W) := HB2.out.trans (hbW.mono HB2.out.size)
          clear hW hbW k0' k1' f1' HOF HB2
          generalize w2.heap.size = oB at *
          generalize w1.heap.size = lo at *
          have zW2 : w.heap.size + 1 < W.heap.size := by omega
          have zW3 : w.heap.size < W.heap.size := by omega
          have hq2 : W.heap[oB]? = some (.cells #[.int .i64 y0, .int .i64 y1, .int .i64 y2, .slice ca n cc] 57 (0, 0)) := HQ2.out
          have HS1 : Hid (w.heap.size + 1 < lo) := z1
          have HZ0 : Hid (w.heap.size + 1 < lo) := z1
          have HZ1 : Hid (lo ≤ oB) := z2
          have HZ2 : Hid (l.length ≤ 1048576) := by have := HN.out; have := HT12.out; show _ ≤ _; omega
          have HWF1 : Hid ((Lit.int .i64 y1).wf = true) := WalkArith.wf_i64 (by omega)
          have HWF9 : Hid ((Lit.int .i64 (1 : Int)).wf = true) := WalkArith.wf_i64 (by omega)
          have HOB : Hid (∀ b, (Value.slice ca n cc).ownBlock = some b → lo ≤ b ∧ b < oB) := fun b hb => HOW.out.blk hb
          clear HS1 hl hlod r1 r2 h12 h12' HT12 z1 z2 HQ2
          go_cut [] (fun wx => ∃ va4 vc4, (∀ o, wx.cell? ⟨oB, o, none⟩ = (#[.int .i64 y0, .int .i64 y1, .int .i64 y2, .slice va4 (n + 1) vc4] : Array Value)[o]?) ∧ (∀ o, wx.frozen? ⟨oB, o, none⟩ = false) ∧ (∀ o, wx.cell? ⟨w.heap.size + 1, o, none⟩ = (#[.int .i64 0, .int .i64 0, .int .i64 0, .int .i64 0, .slice none 0 0] : Array Value)[o]?) ∧ (∀ o, wx.cell? ⟨w.heap.size, o, none⟩ = (#[.int .i64 y0, .int .i64 y1, .int .i64 y2, .slice a n cap] : Array Value)[o]?) ∧ (∀ o, wx.frozen? ⟨w.heap.size + 1, o, none⟩ = false) ∧ Hid (Below w.heap.size w wx) ∧ Hid (Own wx lo wx.heap.size shFlights (l ++ [(y1, data, ld, now, 1, ())]) [.slice va4 (n + 1) vc4]) ∧ Hid (∃ cur, wx.heap[oB]? = some (.cells cur 57 (0, 0))) ∧ oB < wx.heap.size)
          case first =>
            go_region_law ((first
              | (refine app_elem_st w3 (by rfl) _ _ 55 118 (by rfl) shFlight (.agg #[.int .i64 0, .int .i64 0, .slice none 0 0, .int .i64 0, .int .i64 0]) 56 Try.underlying55 info_FlightS rfl (by decide) (by decide) lo oB W.heap.size w3.heap.size l (.slice ca n cc) (by rfl) w3.heap.size rfl (by rfl) HO3.out (y1, data, ld, now, 1, ()) [.int .i64 y1, .int .i64 data, .slice b3 m c3, .int .i64 now, .int .i64 1] HE3.out HZ1.out (by omega) (Nat.le_refl _) HZ2.out HZ3.out ?_; intro v4 w4 ho4 hb4 hk4 hs4; have hz0 := HZ0.out; obtain ⟨va4, vc4, hv4⟩ := row_form (ho4.rd (Nat.le_refl _)); simp only [List.cons.injEq, and_true, List.length_append, List.length_cons, List.length_nil, HN.out] at hv4; subst hv4; have hq4 : Hid _ := (hk4 oB (by omega) (fun e => (by have := HOB.out _ e; omega))).trans hq3.out; have HO4 : Hid (Own w4 lo w4.heap.size shFlights (l ++ [(y1, data, ld, now, 1, ())]) [.slice va4 (n + 1) vc4]) := ho4; have HB4 : Hid (Below w.heap.size w w4) := HB3.out.trans (hb4.mono (by omega)); replace q0 := boxB q0 hb4 (by omega); replace q1 := boxB q1 hb4 (by omega); replace g1 := boxF g1 hb4 (by omega); replace q2 : ∀ o, w4.cell? ⟨oB, o, none⟩ = (#[.int .i64 y0, .int .i64 y1, .int .i64 y2, .slice ca n cc] : Array Value)[o]? := (fun o => cell_of_heap hq4.out o); have pf2 : ∀ o, w4.frozen? ⟨oB, o, none⟩ = false := (fun o => (by simp [World.frozen?, hq4.out])); have z4 : oB < w4.heap.size := (by omega); clear ho4 hb4 hk4)
              | (refine app_st _ (by rfl) _ _ 22 22 (by rfl) Try.underlying22 Try.underlying22 W.heap.size (.slice (some ⟨W.heap.size, 0, none⟩) 0 0) [] (by rfl) (by first | exact ob_made0 W.drew W.heap.size (Nat.le_refl _) | exact OB.below (ob_made0 W W.heap.size (Nat.le_refl _)) (Nat.le_refl _) (Below.drew (Below.refl _ _))) la ld m lc HM.out (by rfl) (HRB.out _ (by first | exact (HBW.out.drew).alloc (by simp; omega) _ | exact (HBW.out.alloc (by omega) _).drew)) HNI.out (by simp; omega) (by simp) ?_; intro v3 w3 ho3 hb3 hg3 hat3; obtain ⟨b3, c3, hv3, -, -⟩ := ho3.rbn; rw [List.nil_append, HM.out] at hv3; subst hv3; have hbb : Below W.heap.size W w3 := (by first | exact (((Below.refl _ _).drew).alloc (by simp) _).trans hb3 | exact (((Below.refl _ _).alloc (Nat.le_refl _) _).drew).trans hb3); have O3 : Hid (Own w3 W.heap.size w3.heap.size u8s ld [.slice b3 m c3]) := (by have h := own_bytes ho3 (Nat.le_refl _); rw [List.nil_append] at h; exact h); have HO3 : Hid (Own w3 lo oB shFlights l [.slice ca n cc]) := HOW.out.below (by omega) hbb; have z3 : W.heap.size ≤ w3.heap.size := hbb.size; have z5 : w.heap.size < w3.heap.size := (by omega); have z6 : oB < w3.heap.size := (by omega); have HE3 : Hid (Own w3 W.heap.size w3.heap.size shFlight (y1, data, ld, now, 1, ()) [.int .i64 y1, .int .i64 data, .slice b3 m c3, .int .i64 now, .int .i64 1]) := hOwnCons (hOwnInt w3 _ W.heap.size HWF1.out) (hOwnCons (hOwnInt w3 _ W.heap.size WD.out) (hOwnCons O3.out (hOwnCons (hOwnInt w3 _ w3.heap.size WN.out) (hOwnCons (hOwnInt w3 _ w3.heap.size HWF9.out) (hOwnNil _ _ _) (Nat.le_refl _) (Nat.le_refl _)) (Nat.le_refl _) (Nat.le_refl _)) (by omega) (Nat.le_refl _)) (Nat.le_refl _) (by omega)) (Nat.le_refl _) (by omega); have HZ3 : Hid (lo ≤ w3.heap.size) := (by show _ ≤ _; have := HZ1.out; omega); replace q0 := boxB q0 hbb (by omega); replace q1 := boxB q1 hbb (by omega); replace g1 := boxF g1 hbb (by omega); replace q2 := boxB q2 hbb (by omega); have hq3 : Hid _ := (hbb.block oB (by omega)).trans hq2; have HB3 : Hid (Below w.heap.size w w3) := HBW.out.trans (hbb.mono (by omega)); clear ho3 hb3 hbb O3 hg3 hat3)))
            all_goals (go_wp2_with fail; go_meet)
            all_goals (
              refine ⟨va4, vc4, box_set3 q2, fun o => by rw [World.frozen?_setCell]; exact pf2 o, box_off q1 (by have := HZ0.out; have := HZ1.out; omega), box_off q0 (by have := HZ0.out; have := HZ1.out; omega), fun o => by rw [World.frozen?_setCell]; exact g1 o, HB4.out.setCell (by have := HZ0.out; have := HZ1.out; simp; omega) _, ?_, ⟨_, heap_set hq4.out⟩, by simpa using z4⟩
              exact Own.mono (Own.off HO4.out hq4.out (by decide) (fun b h1 h2 h3 => Below.heap_setCell _ _ _ _ (by dsimp only; omega))) (Nat.le_refl _) (by simp))
          case rest =>
            obtain ⟨va4, vc4, p2, pg2, p1, p0, pg1, HBX, HOX, HQX, z7⟩ := hcut
            have HWF2 : Hid ((Lit.int .i64 (y1 + (m : Int))).wf = true) := WalkArith.wf_i64 (by omega)
            have z8 : w.heap.size + 1 < oB := by have := HZ0.out; have := HZ1.out; omega
            clear q0 q1 q2 g1 hq2 HOW HBW
            go_wp2_with fail
            refine bodyPost_ret (v := .agg #[.int .i64 0, .int .i64 y0, .int .i64 (y1 + m), .int .i64 y2, .slice va4 (n + 1) vc4]) (by simp [results, Try.results133, go_sem, p1]) rfl ⟨_, rfl, ?_, ?_⟩
            · obtain ⟨cur, hcur⟩ := HQX.out
              have hz0 := HZ0.out
              have hz1 := HZ1.out
              refine Own.mono (lo := lo) (hi := wc.heap.size) (hOwnCons (hOwnInt _ _ lo W0.out) (hOwnCons (hOwnInt _ _ lo HWF2.out) (hOwnCons (hOwnInt _ _ lo W2.out) (hOwnCons (Own.off HOX.out hcur (by decide) (fun b h1 h2 h3 => ?_)) (hOwnNil _ _ _) (by omega) (Nat.le_refl _)) (Nat.le_refl _) (by omega)) (Nat.le_refl _) (by omega)) (Nat.le_refl _) (by omega)) (by omega) (by simp)
              repeat rw [Below.heap_setCell _ _ _ _ (by dsimp only; omega)]
            · have hB1 := HBX.out
              clear p2 pg2 p1 p0 pg1 HOX HBX HQX
              go_grown
      · replace hR : pshR x data ld.length now = false := by simpa using hR
        obtain ⟨e1, e2⟩ := psh_r hF hlod hR
        rw [e1, e2]
        unfold pshR at hR
        clear hr rk hr2 rb hnil hT wf0 wf1 wf2 hwd hwn HCP HRB HNI e1 e2 hF hFx o1 o2 o3
        generalize x.1 = y0 at *
        generalize x.2.1 = y1 at *
        generalize x.2.2.1 = y2 at *
        generalize x.2.2.2.1.length = n at *
        generalize ld.length = m at *
        obtain ⟨b20, b21⟩ := b2
        by_cases r1 : plcD data m = true
        · by_cases r2 : inD now 0 1000000 = true
          · have r3 : 1000000 < y1 + (m : Int) := by simp [r1, r2] at hR; omega
            clear hR
            go_enter Try.func133, Try.ntmps133
            go_wp2_with fail
            refine (HC.out _ (by go_grown) w.heap.size (fun o => by simp [go_sem])).mono ?_
            rintro e w1 ⟨rfl, hb⟩
            have k1 := boxB (w := _) (fun o => (by simp [go_sem] : _ = (#[.int .i64 0, .int .i64 0, .int .i64 0, .int .i64 0, .slice none 0 0] : Array Value)[o]?)) hb (b := w.heap.size + 1) (by simp)
            have f1 : ∀ o, w1.frozen? ⟨w.heap.size + 1, o, none⟩ = false := boxF (w := _) (fun o => by simp [go_sem]) hb (by simp)
            have k0 := boxB (w := _) (fun o => (by simp [go_sem] : _ = (#[.int .i64 y0, .int .i64 y1, .int .i64 y2, .slice a n cap] : Array Value)[o]?)) hb (b := w.heap.size) (by simp; omega)
            have z1 : w.heap.size + 1 < w1.heap.size := by have := hb.size; simp at this; omega
            have HB : Hid (Below w.heap.size w w1) := Below.trans (by go_grown) (hb.mono (by simp; omega))
            clear hb HC
            go_wp2_with (first | (go_at_call 143; refine (sLodD _ _ _ _ (by omega)).mono ?_; rintro e w' ⟨rfl, hw⟩; subst w') | (go_at_call 47; refine (sPlcD _ _ _ (by omega)).mono ?_; rintro e w' ⟨rfl, hw⟩; subst w') | (go_at_call 118; refine (sTickD _ _).mono ?_; rintro e w' ⟨rfl, hw⟩; subst w'))
            refine (sBad _ _).mono ?_
            rintro e w2 ⟨rfl, hb⟩
            have k1' := boxB k1 hb (by omega)
            have f1' := boxF f1 hb (by omega)
            have HB2 : Hid (Below w.heap.size w w2) := HB.out.trans (hb.mono HB.out.size)
            have z2 : w.heap.size + 1 < w2.heap.size := Nat.lt_of_lt_of_le z1 hb.size
            clear hb k1 f1 k0 HB
            go_wp2_with fail
            refine bodyPost_ret (v := .agg #[.int .i64 3, .int .i64 0, .int .i64 0, .int .i64 0, .slice none 0 0]) (by simp [results, Try.results133, go_sem, k1']) rfl ⟨_, rfl, own_snd0 _ _ _ (by simp; omega) (WalkArith.wf_i64 (by omega)) (WalkArith.wf_i64 (by omega)) (WalkArith.wf_i64 (by omega)), ?_⟩
            have hB1 := HB2.out
            clear k1' f1' HB2
            go_grown
          · replace r2 : inD now 0 1000000 = false := by simpa using r2
            clear hR
            go_enter Try.func133, Try.ntmps133
            go_wp2_with fail
            refine (HC.out _ (by go_grown) w.heap.size (fun o => by simp [go_sem])).mono ?_
            rintro e w1 ⟨rfl, hb⟩
            have k1 := boxB (w := _) (fun o => (by simp [go_sem] : _ = (#[.int .i64 0, .int .i64 0, .int .i64 0, .int .i64 0, .slice none 0 0] : Array Value)[o]?)) hb (b := w.heap.size + 1) (by simp)
            have f1 : ∀ o, w1.frozen? ⟨w.heap.size + 1, o, none⟩ = false := boxF (w := _) (fun o => by simp [go_sem]) hb (by simp)
            have k0 := boxB (w := _) (fun o => (by simp [go_sem] : _ = (#[.int .i64 y0, .int .i64 y1, .int .i64 y2, .slice a n cap] : Array Value)[o]?)) hb (b := w.heap.size) (by simp; omega)
            have z1 : w.heap.size + 1 < w1.heap.size := by have := hb.size; simp at this; omega
            have HB : Hid (Below w.heap.size w w1) := Below.trans (by go_grown) (hb.mono (by simp; omega))
            clear hb HC
            go_wp2_with (first | (go_at_call 143; refine (sLodD _ _ _ _ (by omega)).mono ?_; rintro e w' ⟨rfl, hw⟩; subst w') | (go_at_call 47; refine (sPlcD _ _ _ (by omega)).mono ?_; rintro e w' ⟨rfl, hw⟩; subst w') | (go_at_call 118; refine (sTickD _ _).mono ?_; rintro e w' ⟨rfl, hw⟩; subst w'))
            refine (sBad _ _).mono ?_
            rintro e w2 ⟨rfl, hb⟩
            have k1' := boxB k1 hb (by omega)
            have f1' := boxF f1 hb (by omega)
            have HB2 : Hid (Below w.heap.size w w2) := HB.out.trans (hb.mono HB.out.size)
            have z2 : w.heap.size + 1 < w2.heap.size := Nat.lt_of_lt_of_le z1 hb.size
            clear hb k1 f1 k0 HB
            go_wp2_with fail
            refine bodyPost_ret (v := .agg #[.int .i64 3, .int .i64 0, .int .i64 0, .int .i64 0, .slice none 0 0]) (by simp [results, Try.results133, go_sem, k1']) rfl ⟨_, rfl, own_snd0 _ _ _ (by simp; omega) (WalkArith.wf_i64 (by omega)) (WalkArith.wf_i64 (by omega)) (WalkArith.wf_i64 (by omega)), ?_⟩
            have hB1 := HB2.out
            clear k1' f1' HB2
            go_grown
        · replace r1 : plcD data m = false := by simpa using r1
          clear hR
          go_enter Try.func133, Try.ntmps133
          go_wp2_with fail
          refine (HC.out _ (by go_grown) w.heap.size (fun o => by simp [go_sem])).mono ?_
          rintro e w1 ⟨rfl, hb⟩
          have k1 := boxB (w := _) (fun o => (by simp [go_sem] : _ = (#[.int .i64 0, .int .i64 0, .int .i64 0, .int .i64 0, .slice none 0 0] : Array Value)[o]?)) hb (b := w.heap.size + 1) (by simp)
          have f1 : ∀ o, w1.frozen? ⟨w.heap.size + 1, o, none⟩ = false := boxF (w := _) (fun o => by simp [go_sem]) hb (by simp)
          have k0 := boxB (w := _) (fun o => (by simp [go_sem] : _ = (#[.int .i64 y0, .int .i64 y1, .int .i64 y2, .slice a n cap] : Array Value)[o]?)) hb (b := w.heap.size) (by simp; omega)
          have z1 : w.heap.size + 1 < w1.heap.size := by have := hb.size; simp at this; omega
          have HB : Hid (Below w.heap.size w w1) := Below.trans (by go_grown) (hb.mono (by simp; omega))
          clear hb HC
          go_wp2_with (first | (go_at_call 143; refine (sLodD _ _ _ _ (by omega)).mono ?_; rintro e w' ⟨rfl, hw⟩; subst w') | (go_at_call 47; refine (sPlcD _ _ _ (by omega)).mono ?_; rintro e w' ⟨rfl, hw⟩; subst w') | (go_at_call 118; refine (sTickD _ _).mono ?_; rintro e w' ⟨rfl, hw⟩; subst w'))
          refine (sBad _ _).mono ?_
          rintro e w2 ⟨rfl, hb⟩
          have k1' := boxB k1 hb (by omega)
          have f1' := boxF f1 hb (by omega)
          have HB2 : Hid (Below w.heap.size w w2) := HB.out.trans (hb.mono HB.out.size)
          have z2 : w.heap.size + 1 < w2.heap.size := Nat.lt_of_lt_of_le z1 hb.size
          clear hb k1 f1 k0 HB
          go_wp2_with fail
          refine bodyPost_ret (v := .agg #[.int .i64 3, .int .i64 0, .int .i64 0, .int .i64 0, .slice none 0 0]) (by simp [results, Try.results133, go_sem, k1']) rfl ⟨_, rfl, own_snd0 _ _ _ (by simp; omega) (WalkArith.wf_i64 (by omega)) (WalkArith.wf_i64 (by omega)) (WalkArith.wf_i64 (by omega)), ?_⟩
          have hB1 := HB2.out
          clear k1' f1' HB2
          go_grown
    · replace hlod : lodD ld.length = false := by simpa using hlod
      obtain ⟨e1, e2⟩ := psh_l (data := data) (now := now) hF hlod
      rw [e1, e2]
      clear hr rk hr2 rb hnil hT wf0 wf1 wf2 hwd hwn HCP HRB HNI e1 e2 hF hFx o1 o2 o3
      generalize x.1 = y0 at *
      generalize x.2.1 = y1 at *
      generalize x.2.2.1 = y2 at *
      generalize x.2.2.2.1.length = n at *
      generalize ld.length = m at *
      go_enter Try.func133, Try.ntmps133
      go_wp2_with fail
      refine (HC.out _ (by go_grown) w.heap.size (fun o => by simp [go_sem])).mono ?_
      rintro e w1 ⟨rfl, hb⟩
      have k1 := boxB (w := _) (fun o => (by simp [go_sem] : _ = (#[.int .i64 0, .int .i64 0, .int .i64 0, .int .i64 0, .slice none 0 0] : Array Value)[o]?)) hb (b := w.heap.size + 1) (by simp)
      have f1 : ∀ o, w1.frozen? ⟨w.heap.size + 1, o, none⟩ = false := boxF (w := _) (fun o => by simp [go_sem]) hb (by simp)
      have k0 := boxB (w := _) (fun o => (by simp [go_sem] : _ = (#[.int .i64 y0, .int .i64 y1, .int .i64 y2, .slice a n cap] : Array Value)[o]?)) hb (b := w.heap.size) (by simp; omega)
      have z1 : w.heap.size + 1 < w1.heap.size := by have := hb.size; simp at this; omega
      have HB : Hid (Below w.heap.size w w1) := Below.trans (by go_grown) (hb.mono (by simp; omega))
      clear hb HC
      go_wp2_with (first | (go_at_call 143; refine (sLodD _ _ _ _ (by omega)).mono ?_; rintro e w' ⟨rfl, hw⟩; subst w') | (go_at_call 47; refine (sPlcD _ _ _ (by omega)).mono ?_; rintro e w' ⟨rfl, hw⟩; subst w') | (go_at_call 118; refine (sTickD _ _).mono ?_; rintro e w' ⟨rfl, hw⟩; subst w'))
      refine (sBad _ _).mono ?_
      rintro e w2 ⟨rfl, hb⟩
      have k1' := boxB k1 hb (by omega)
      have f1' := boxF f1 hb (by omega)
      have HB2 : Hid (Below w.heap.size w w2) := HB.out.trans (hb.mono HB.out.size)
      have z2 : w.heap.size + 1 < w2.heap.size := Nat.lt_of_lt_of_le z1 hb.size
      clear hb k1 f1 k0 HB
      go_wp2_with fail
      refine bodyPost_ret (v := .agg #[.int .i64 1, .int .i64 0, .int .i64 0, .int .i64 0, .slice none 0 0]) (by simp [results, Try.results133, go_sem, k1']) rfl ⟨_, rfl, own_snd0 _ _ _ (by simp; omega) (WalkArith.wf_i64 (by omega)) (WalkArith.wf_i64 (by omega)) (WalkArith.wf_i64 (by omega)), ?_⟩
      have hB1 := HB2.out
      clear k1' f1' HB2
      go_grown
  · obtain ⟨e1, e2⟩ := psh_f (data := data) (ld := ld) (now := now) hF
    rw [e1, e2, ← hFx]
    have hF' : (F != 0) = true := by rw [hFx]; simp [hF]
    clear hr rk hr2 rb hnil hT wf0 wf1 wf2 hwd hwn HCP HRB HNI e1 e2 hF hFx
    generalize x.1 = y0 at *
    generalize x.2.1 = y1 at *
    generalize x.2.2.1 = y2 at *
    generalize x.2.2.2.1.length = n at *
    generalize ld.length = m at *
    go_enter Try.func133, Try.ntmps133
    go_wp2_with fail
    refine (HC.out _ (by go_grown) w.heap.size (fun o => by simp [go_sem])).mono ?_
    rintro e w1 ⟨rfl, hb⟩
    have k1 := boxB (w := _) (fun o => (by simp [go_sem] : _ = (#[.int .i64 0, .int .i64 0, .int .i64 0, .int .i64 0, .slice none 0 0] : Array Value)[o]?)) hb (b := w.heap.size + 1) (by simp)
    have f1 : ∀ o, w1.frozen? ⟨w.heap.size + 1, o, none⟩ = false := boxF (w := _) (fun o => by simp [go_sem]) hb (by simp)
    have k0 := boxB (w := _) (fun o => (by simp [go_sem] : _ = (#[.int .i64 y0, .int .i64 y1, .int .i64 y2, .slice a n cap] : Array Value)[o]?)) hb (b := w.heap.size) (by simp; omega)
    have z1 : w.heap.size + 1 < w1.heap.size := by have := hb.size; simp at this; omega
    have HB : Hid (Below w.heap.size w w1) := Below.trans (by go_grown) (hb.mono (by simp; omega))
    clear hb HC
    go_wp2_with (first | (go_at_call 143; refine (sLodD _ _ _ _ (by omega)).mono ?_; rintro e w' ⟨rfl, hw⟩; subst w') | (go_at_call 47; refine (sPlcD _ _ _ (by omega)).mono ?_; rintro e w' ⟨rfl, hw⟩; subst w') | (go_at_call 118; refine (sTickD _ _).mono ?_; rintro e w' ⟨rfl, hw⟩; subst w'))
    refine (sBad _ _).mono ?_
    rintro e w2 ⟨rfl, hb⟩
    have k1' := boxB k1 hb (by omega)
    have f1' := boxF f1 hb (by omega)
    have HB2 : Hid (Below w.heap.size w w2) := HB.out.trans (hb.mono HB.out.size)
    have z2 : w.heap.size + 1 < w2.heap.size := Nat.lt_of_lt_of_le z1 hb.size
    clear hb k1 f1 k0 HB
    go_wp2_with fail
    refine bodyPost_ret (v := .agg #[.int .i64 F, .int .i64 0, .int .i64 0, .int .i64 0, .slice none 0 0]) (by simp [results, Try.results133, go_sem, k1']) rfl ⟨_, rfl, own_snd0 _ _ _ (by simp; omega) (WalkArith.wf_i64 (by omega)) (WalkArith.wf_i64 (by omega)) (WalkArith.wf_i64 (by omega)), ?_⟩
    have hB1 := HB2.out
    clear k1' f1' HB2
    go_grown
end Go.Proofs.Ytebgibjokljlbaa
