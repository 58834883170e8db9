/- What the program makes of a sender that is pushed a flight; nothing that was in memory turns; no condition but that loads are of at most a million bytes. -/
import Derived.Test.YteaddhldleeaiaaRows
import Derived.Test.YteaddhldleeaiaaBase
import Derived.Test.YteaddhldleeaiaaNum
import Derived.Test.YteaddhldleeaiaaNumWalks
import Derived.Test.YteaddhldleeaiaaMem
import Derived.Test.YteaddhldleeaiaaHBase
import Derived.Test.YteaddhldleeaiaaHFlight
import Derived.Test.YteaddhldleeaiaaHSender
import Derived.Test.YteaddhldleeaiaaFlightDef
import Derived.Test.YteaddhldleeaiaaSpecFlight3
import Derived.Test.YteaddhldleeaiaaImplFlight
import Derived.Test.YteaddhldleeaiaaImplCopy
import Derived.Deep.RegionHeld3
import Derived.Deep.CutRange
import Derived.Deep.RegionLaw
import Derived.Deep.DeepCutAuto
import Derived.Test.YteaddhldleeaiaaHMark
import Derived.Test.YteaddhldleeaiaaMFlight
import Derived.Test.YteaddhldleeaiaaMSender
import Derived.Test.YteaddhldleeaiaaAppBytes
import Derived.Test.YteaddhldleeaiaaApp
import Derived.Test.YteaddhldleeaiaaMemRow
import Derived.Test.YteaddhldleeaiaaMemApp
import Derived.Deep.DeepMust
import Derived.Test.YteaddhldleeaiaaBox
namespace Go.Proofs.Yteaddhldleeaiaa
open Go.RowKit
set_option linter.unusedVariables false

theorem own_flsI {w : World} {lo hi : Nat} {y0 y1 y2 : Int} {l : List DFlight} {c0 c1 c2 v : Value} {u : Unit} (h : Own w lo hi shSender (y0, y1, y2, l, u) [c0, c1, c2, v]) : Own w lo hi shFlights l [v] := by
  obtain ⟨bs, h1, h2, h3⟩ := h
  obtain ⟨vv, ev, hk, -⟩ := ow_Sender h1
  simp only [List.cons.injEq, and_true] at ev
  rw [ev.2.2.2]
  exact ⟨bs, hk, h2, h3⟩
set_option maxHeartbeats 4000000 in
theorem iPushFault (x : DSender) (v : Value) (data : Int) (ld : List Int) (la : Option Addr) (lc : Nat) (now : Int) (w : World) (B : Nat) (hr : shSender.Rd w B x [.int .i64 x.1, .int .i64 x.2.1, .int .i64 x.2.2.1, v]) (hB : B ≤ w.heap.size) (hT : totSender x ≤ 1048576) (hl : ld.length ≤ 1048576) :
    Calls Try.prog 19 #[.agg #[.int .i64 x.1, .int .i64 x.2.1, .int .i64 x.2.2.1, v], .int .i64 data, .slice la ld.length lc, .int .i64 now] w fun e w' => e = .returned (.int .i64 (pshC x data ld now)) ∧ Below w.heap.size w w' := by
  obtain ⟨vv, ev, rk, -⟩ := rd_Sender hr
  simp only [List.cons.injEq, and_true, true_and] at ev
  subst ev
  obtain ⟨a, cap, ev2⟩ := row_form rk
  simp only [List.cons.injEq, and_true] at ev2
  subst ev2
  obtain ⟨F, hFx⟩ : ∃ F, F = sndFault x := ⟨_, rfl⟩
  have HC : Hid (∀ W, Below w.heap.size w W → Calls Try.prog 10 #[.agg #[.int .i64 x.1, .int .i64 x.2.1, .int .i64 x.2.2.1, .slice a x.2.2.2.1.length cap]] W fun e w' => e = .returned (.int .i64 F) ∧ Below W.heap.size W w') :=
    fun W hW => by rw [hFx]; exact iSenderFault x _ W B (Sh.Rd.below hr hB hW) (Nat.le_trans hB hW.size) hT
  by_cases hF : sndFault x = 0
  · obtain ⟨o1, o2, o3, o4⟩ := snd_ok hF
    obtain ⟨b20, b21⟩ := inD_yes o2
    have hF' : F = 0 := by rw [hFx]; exact hF
    subst hF'
    by_cases hlod : lodD ld.length = true
    · have b8 := lodD_yes hlod
      by_cases hR : pshR x data ld.length now = true
      · have hR' := hR
        unfold pshR at hR'
        simp only [Bool.and_eq_true, decide_eq_true_eq] at hR'
        obtain ⟨⟨r1, r2⟩, r3⟩ := hR'
        by_cases h12 : 12 ≤ x.2.2.2.1.length
        · rw [(psh_m hF hlod hR h12).1]
          have h12' : x.2.2.2.1.length = 12 := by omega
          clear hr rk hT hF hFx hR o1 o2 o3
          generalize x.1 = y0 at *
          generalize x.2.1 = y1 at *
          generalize x.2.2.1 = y2 at *
          generalize ld.length = m at *
          rw [h12'] at HC ⊢
          clear h12' h12 o4
          go_enter Try.func19, Try.ntmps19
          go_wp2_with fail
          refine (HC.out _ (by go_grown)).mono ?_
          rintro e w1 ⟨rfl, hb⟩
          have k0 := bx_new (w := w) hb
          have HB : Hid (Below w.heap.size w w1) := Below.trans (by go_grown) (hb.mono (by simp))
          clear hb HC
          go_wp2_with (first | (go_at_call 42; refine (iLodD _ _ _ _).mono ?_; rintro e w' ⟨rfl, hw⟩; subst w') | (go_at_call 43; refine (iPlcD _ _ _ _ _ (by omega)).mono ?_; rintro e w' ⟨rfl, hw⟩; subst w') | (go_at_call 28; refine (iInD _ _ _ _).mono ?_; rintro e w' ⟨rfl, hw⟩; subst w'))
          go_ret
          exact ⟨rfl, HB.out⟩
        · rw [(psh_ok hF hlod hR h12).1]
          clear hr rk hT hF hFx hR o1 o2 o3
          generalize x.1 = y0 at *
          generalize x.2.1 = y1 at *
          generalize x.2.2.1 = y2 at *
          generalize x.2.2.2.1.length = n at *
          generalize ld.length = m at *
          have h12' : ((n : Int) == 12) = false := by simp; omega
          have h12'' : ¬ ((n : Int) = 12) := by omega
          go_enter Try.func19, Try.ntmps19
          go_wp2_with fail
          refine (HC.out _ (by go_grown)).mono ?_
          rintro e w1 ⟨rfl, hb⟩
          have k0 := bx_new (w := w) hb
          have HB : Hid (Below w.heap.size w w1) := Below.trans (by go_grown) (hb.mono (by simp))
          clear hb HC
          go_wp2_with (first | (go_at_call 42; refine (iLodD _ _ _ _).mono ?_; rintro e w' ⟨rfl, hw⟩; subst w') | (go_at_call 43; refine (iPlcD _ _ _ _ _ (by omega)).mono ?_; rintro e w' ⟨rfl, hw⟩; subst w') | (go_at_call 28; refine (iInD _ _ _ _).mono ?_; rintro e w' ⟨rfl, hw⟩; subst w'))
          go_ret
          exact ⟨rfl, HB.out⟩
      · replace hR : pshR x data ld.length now = false := by simpa using hR
        rw [(psh_r hF hlod hR).1]
        unfold pshR at hR
        clear hr rk hT hF hFx o1 o2 o3
        generalize x.1 = y0 at *
        generalize x.2.1 = y1 at *
        generalize x.2.2.1 = y2 at *
        generalize x.2.2.2.1.length = n at *
        generalize ld.length = m at *
        by_cases r1 : plcD data m = true
        · by_cases r2 : inD now 0 1000000 = true
          · have r3 : 1000000 < y1 + (m : Int) := by simp [r1, r2] at hR; omega
            clear hR
            go_enter Try.func19, Try.ntmps19
            go_wp2_with fail
            refine (HC.out _ (by go_grown)).mono ?_
            rintro e w1 ⟨rfl, hb⟩
            have k0 := bx_new (w := w) hb
            have HB : Hid (Below w.heap.size w w1) := Below.trans (by go_grown) (hb.mono (by simp))
            clear hb HC
            go_wp2_with (first | (go_at_call 42; refine (iLodD _ _ _ _).mono ?_; rintro e w' ⟨rfl, hw⟩; subst w') | (go_at_call 43; refine (iPlcD _ _ _ _ _ (by omega)).mono ?_; rintro e w' ⟨rfl, hw⟩; subst w') | (go_at_call 28; refine (iInD _ _ _ _).mono ?_; rintro e w' ⟨rfl, hw⟩; subst w'))
            go_ret
            exact ⟨rfl, HB.out⟩
          · replace r2 : inD now 0 1000000 = false := by simpa using r2
            clear hR
            go_enter Try.func19, Try.ntmps19
            go_wp2_with fail
            refine (HC.out _ (by go_grown)).mono ?_
            rintro e w1 ⟨rfl, hb⟩
            have k0 := bx_new (w := w) hb
            have HB : Hid (Below w.heap.size w w1) := Below.trans (by go_grown) (hb.mono (by simp))
            clear hb HC
            go_wp2_with (first | (go_at_call 42; refine (iLodD _ _ _ _).mono ?_; rintro e w' ⟨rfl, hw⟩; subst w') | (go_at_call 43; refine (iPlcD _ _ _ _ _ (by omega)).mono ?_; rintro e w' ⟨rfl, hw⟩; subst w') | (go_at_call 28; refine (iInD _ _ _ _).mono ?_; rintro e w' ⟨rfl, hw⟩; subst w'))
            go_ret
            exact ⟨rfl, HB.out⟩
        · replace r1 : plcD data m = false := by simpa using r1
          clear hR
          go_enter Try.func19, Try.ntmps19
          go_wp2_with fail
          refine (HC.out _ (by go_grown)).mono ?_
          rintro e w1 ⟨rfl, hb⟩
          have k0 := bx_new (w := w) hb
          have HB : Hid (Below w.heap.size w w1) := Below.trans (by go_grown) (hb.mono (by simp))
          clear hb HC
          go_wp2_with (first | (go_at_call 42; refine (iLodD _ _ _ _).mono ?_; rintro e w' ⟨rfl, hw⟩; subst w') | (go_at_call 43; refine (iPlcD _ _ _ _ _ (by omega)).mono ?_; rintro e w' ⟨rfl, hw⟩; subst w') | (go_at_call 28; refine (iInD _ _ _ _).mono ?_; rintro e w' ⟨rfl, hw⟩; subst w'))
          go_ret
          exact ⟨rfl, HB.out⟩
    · replace hlod : lodD ld.length = false := by simpa using hlod
      rw [(psh_l hF hlod).1]
      clear hr rk hT hF hFx o1 o2 o3
      generalize x.1 = y0 at *
      generalize x.2.1 = y1 at *
      generalize x.2.2.1 = y2 at *
      generalize x.2.2.2.1.length = n at *
      generalize ld.length = m at *
      go_enter Try.func19, Try.ntmps19
      go_wp2_with fail
      refine (HC.out _ (by go_grown)).mono ?_
      rintro e w1 ⟨rfl, hb⟩
      have k0 := bx_new (w := w) hb
      have HB : Hid (Below w.heap.size w w1) := Below.trans (by go_grown) (hb.mono (by simp))
      clear hb HC
      go_wp2_with (first | (go_at_call 42; refine (iLodD _ _ _ _).mono ?_; rintro e w' ⟨rfl, hw⟩; subst w') | (go_at_call 43; refine (iPlcD _ _ _ _ _ (by omega)).mono ?_; rintro e w' ⟨rfl, hw⟩; subst w') | (go_at_call 28; refine (iInD _ _ _ _).mono ?_; rintro e w' ⟨rfl, hw⟩; subst w'))
      go_ret
      exact ⟨rfl, HB.out⟩
  · rw [(psh_f hF).1, ← hFx]
    have hF' : (F != 0) = true := by rw [hFx]; simp [hF]
    clear hr rk hT hF hFx
    generalize x.1 = y0 at *
    generalize x.2.1 = y1 at *
    generalize x.2.2.1 = y2 at *
    generalize x.2.2.2.1.length = n at *
    generalize ld.length = m at *
    go_enter Try.func19, Try.ntmps19
    go_wp2_with fail
    refine (HC.out _ (by go_grown)).mono ?_
    rintro e w1 ⟨rfl, hb⟩
    have k0 := bx_new (w := w) hb
    have HB : Hid (Below w.heap.size w w1) := Below.trans (by go_grown) (hb.mono (by simp))
    clear hb HC
    go_wp2_with (first | (go_at_call 42; refine (iLodD _ _ _ _).mono ?_; rintro e w' ⟨rfl, hw⟩; subst w') | (go_at_call 43; refine (iPlcD _ _ _ _ _ (by omega)).mono ?_; rintro e w' ⟨rfl, hw⟩; subst w') | (go_at_call 28; refine (iInD _ _ _ _).mono ?_; rintro e w' ⟨rfl, hw⟩; subst w'))
    go_ret
    exact ⟨rfl, HB.out⟩
set_option maxHeartbeats 8000000 in
theorem iPushFlight (x : DSender) (v : Value) (data : Int) (ld : List Int) (vl : Value) (now : Int) (w : World) (B : Nat) (hr : shSender.Rd w B x [.int .i64 x.1, .int .i64 x.2.1, .int .i64 x.2.2.1, v]) (hr2 : u8s.Rd w B ld [vl]) (hB : B ≤ w.heap.size) (hT : totSender x ≤ 1048576) (hl : ld.length ≤ 1048576) (hwd : (Lit.int .i64 data).wf = true) (hwn : (Lit.int .i64 now).wf = true) :
    Calls Try.prog 6 #[.agg #[.int .i64 x.1, .int .i64 x.2.1, .int .i64 x.2.2.1, v], .int .i64 data, vl, .int .i64 now] w fun e w' => ∃ u, e = .returned (.agg #[.int .i64 (pshC x data ld now), .int .i64 (pshV x data ld now).1, .int .i64 (pshV x data ld now).2.1, .int .i64 (pshV x data ld now).2.2.1, u]) ∧ Own w' w.heap.size w'.heap.size shSender (pshV x data ld now) [.int .i64 (pshV x data ld now).1, .int .i64 (pshV x data ld now).2.1, .int .i64 (pshV x data ld now).2.2.1, u] ∧ Below w.heap.size w w' := by
  obtain ⟨vv, ev, rk, wf0, wf1, wf2⟩ := rd_Sender hr
  simp only [List.cons.injEq, and_true, true_and] at ev
  subst ev
  obtain ⟨a, cap, ev2⟩ := row_form rk
  simp only [List.cons.injEq, and_true] at ev2
  subst ev2
  obtain ⟨la, lc, el, rb, hnil, -⟩ := rd_bytes hr2
  simp only [List.cons.injEq, and_true] at el
  subst el
  obtain ⟨F, hFx⟩ : ∃ F, F = pshC x data ld now := ⟨_, rfl⟩
  have HC : Hid (∀ W, Below w.heap.size w W → Calls Try.prog 19 #[.agg #[.int .i64 x.1, .int .i64 x.2.1, .int .i64 x.2.2.1, .slice a x.2.2.2.1.length cap], .int .i64 data, .slice la ld.length lc, .int .i64 now] W fun e w' => e = .returned (.int .i64 F) ∧ Below W.heap.size W w') :=
    fun W hW => by rw [hFx]; exact iPushFault x _ data ld la lc now W B (Sh.Rd.below hr hB hW) (Nat.le_trans hB hW.size) hT hl
  have HCP : Hid (∀ W, Below w.heap.size w W → x.2.2.2.1.length ≤ 12 → Calls Try.prog 20 #[.agg #[.int .i64 x.1, .int .i64 x.2.1, .int .i64 x.2.2.1, .slice a x.2.2.2.1.length cap]] W fun e w' => ∃ u, e = .returned (.agg #[.int .i64 x.1, .int .i64 x.2.1, .int .i64 x.2.2.1, u]) ∧ Own w' W.heap.size w'.heap.size shSender x [.int .i64 x.1, .int .i64 x.2.1, .int .i64 x.2.2.1, u] ∧ Below W.heap.size W w') :=
    fun W hW h12 => iCopyS x _ W B (hr.below hB hW) (Nat.le_trans hB hW.size) hT (by omega)
  have HCB : Hid (∀ W, Below w.heap.size w W → Calls Try.prog 21 #[.slice la ld.length lc] W fun e w' => ∃ b1 c1, e = .returned (.slice b1 ld.length c1) ∧ OB w' W.heap.size (.slice b1 ld.length c1) ld ∧ Below W.heap.size W w') :=
    fun W hW => iCopyB la _ lc ld W rfl (rb.below (Nat.le_refl _) hW) hnil hl
  have W0 : Hid _ := wf0
  have W2 : Hid _ := wf2
  have WD : Hid _ := hwd
  have WN : Hid _ := hwn
  clear hr2 rb hnil wf0 wf2 hwd hwn
  by_cases hF : pshC x data ld now = 0
  · have e2 : pshV x data ld now = (x.1, x.2.1 + ld.length, x.2.2.1, x.2.2.2.1 ++ [(x.2.1, data, ld, now, 1, ())], ()) := by unfold pshV; rw [if_pos hF]
    obtain ⟨h0, h8, h12, b20, b21⟩ : sndFault x = 0 ∧ ld.length ≤ 8 ∧ x.2.2.2.1.length < 12 ∧ 0 ≤ x.2.1 ∧ x.2.1 + ld.length ≤ 1000000 := by
      unfold pshC at hF
      split at hF
      · rename_i g0
        split at hF
        · rename_i g1
          split at hF
          · rename_i g2
            split at hF
            · omega
            · unfold pshR at g2
              simp only [Bool.and_eq_true, decide_eq_true_eq] at g2
              exact ⟨g0, (lodD_yes g1).2, by omega, (inD_yes (snd_ok g0).2.1).1, g2.2⟩
          · omega
        · omega
      · exact absurd hF (by assumption)
    have hF' : F = 0 := by rw [hFx]; exact hF
    subst hF'
    rw [hF, e2]
    clear hr rk hT wf1 hF hFx e2 h0
    obtain ⟨y0, y1, y2, l, _⟩ := x
    simp only at *
    obtain ⟨n, hn⟩ : ∃ n, l.length = n := ⟨_, rfl⟩
    rw [hn] at HC HCP h12 ⊢
    have HN : Hid (l.length = n) := hn
    obtain ⟨m, hm⟩ : ∃ m, ld.length = m := ⟨_, rfl⟩
    rw [hm] at HC HCB h8 b21 hl ⊢
    clear hn hm
    go_enter Try.func6, Try.ntmps6
    go_wp2_with fail
    refine (HC.out _ (by go_grown)).mono ?_
    rintro e w1 ⟨rfl, hb⟩
    have k1 := boxB (w := _) (fun o => (by simp [go_sem] : _ = (#[.int .i64 0, .int .i64 0, .int .i64 0, .int .i64 0, .slice none 0 0] : Array Value)[o]?)) hb (b := w.heap.size + 1) (by simp)
    have f1 : ∀ o, w1.frozen? ⟨w.heap.size + 1, o, none⟩ = false := boxF (w := _) (fun o => by simp [go_sem]) hb (by simp)
    have k0 := boxB (w := _) (fun o => (by simp [go_sem] : _ = (#[.int .i64 y0, .int .i64 y1, .int .i64 y2, .slice a n cap] : Array Value)[o]?)) hb (b := w.heap.size) (by simp; omega)
    have z1 : w.heap.size + 1 < w1.heap.size := by have := hb.size; simp at this; omega
    have HB : Hid (Below w.heap.size w w1) := Below.trans (by go_grown) (hb.mono (by simp; omega))
    clear hb HC
    go_wp2_with fail
    refine (HCP.out _ HB.out (by omega)).mono ?_
    rintro e w2 ⟨u, rfl, ho, hb⟩
    obtain ⟨vv, ev, ru, -⟩ := rd_Sender (ho.rd (Nat.le_refl _))
    simp only [List.cons.injEq, and_true, true_and] at ev
    subst ev
    obtain ⟨ca, cc, ev2⟩ := row_form ru
    simp only [List.cons.injEq, and_true] at ev2
    subst ev2
    have HOF : Hid (Own w2 w1.heap.size w2.heap.size shFlights l [.slice ca n cc]) := by
      have h := own_flsI ho
      rw [HN.out] at h; exact h
    have k1' := boxB k1 hb (by omega)
    have f1' := boxF f1 hb (by omega)
    have k0' := boxB k0 hb (by omega)
    have HB2 : Hid (Below w.heap.size w w2) := HB.out.trans (hb.mono HB.out.size)
    have z2 : w1.heap.size ≤ w2.heap.size := hb.size
    rw [HN.out]
    clear hb k1 f1 k0 HB ho ru HCP
    go_upto_region 5 with fail
    obtain ⟨W, hW⟩ : ∃ W, W = w2.alloc (.cells #[.int .i64 y0, .int .i64 y1, .int .i64 y2, .slice ca n cc] 26) := ⟨_, rfl⟩
    rw [← hW]
    have hbW : Below w2.heap.size w2 W := by rw [hW]; exact (Below.refl _ _).alloc (Nat.le_refl _) _
    have q0 := boxB k0' hbW (by omega)
    have q1 := boxB k1' hbW (by omega)
    have g1 := boxF f1' hbW (by omega)
    have q2 : ∀ o, W.cell? ⟨w2.heap.size, o, none⟩ = (#[.int .i64 y0, .int .i64 y1, .int .i64 y2, .slice ca n cc] : Array Value)[o]? := fun o => by rw [hW]; simp
    have hq2 : Hid (W.heap[w2.heap.size]? = some (.cells #[.int .i64 y0, .int .i64 y1, .int .i64 y2, .slice ca n cc] 26 (0, 0))) := by rw [hW]; exact heap_alloc_new _ _
    have HOW : Hid (Own W w1.heap.size w2.heap.size shFlights l [.slice ca n cc]) := HOF.out.below (Nat.le_refl _) hbW
    have zW1 : w2.heap.size < W.heap.size := by rw [hW]; simp
    have HBW : Hid (Below w.heap.size w W) := HB2.out.trans (hbW.mono HB2.out.size)
    clear hW hbW k0' k1' f1' HOF HB2
    generalize w2.heap.size = oB at *
    generalize w1.heap.size = lo at *
    have zW2 : w.heap.size + 1 < W.heap.size := by omega
    have zW3 : w.heap.size < W.heap.size := by omega
    have HWF1 : Hid ((Lit.int .i64 y1).wf = true) := WalkArith.wf_i64 (by omega)
    have HWF9 : Hid ((Lit.int .i64 (1 : Int)).wf = true) := WalkArith.wf_i64 (by omega)
    have HOB : Hid (∀ b, (Value.slice ca n cc).ownBlock = some b → lo ≤ b ∧ b < oB) := fun b hb => HOW.out.blk hb
    go_region_law ((first
      | (refine app_elem_st w3 (by rfl) _ _ 24 38 (by rfl) shFlight (.agg #[.int .i64 0, .int .i64 0, .slice none 0 0, .int .i64 0, .int .i64 0]) 56 Try.underlying24 info_FlightS rfl (by decide) (by decide) lo oB W.heap.size w3.heap.size l (.slice ca n cc) (by rfl) w3.heap.size rfl (by rfl) HO3.out (y1, data, ld, now, 1, ()) [.int .i64 y1, .int .i64 data, .slice b3 m c3, .int .i64 now, .int .i64 1] HE3.out (by omega) (by omega) (Nat.le_refl _) (by have := HN.out; omega) (by omega) ?_; intro v4 w4 ho4 hb4 hk4 hs4; obtain ⟨va4, vc4, hv4⟩ := row_form (ho4.rd (Nat.le_refl _)); simp only [List.cons.injEq, and_true, List.length_append, List.length_cons, List.length_nil, HN.out] at hv4; subst hv4; have hq4 : Hid _ := (hk4 oB (by omega) (fun e => (by have := HOB.out _ e; omega))).trans hq3.out; have HO4 : Hid (Own w4 lo w4.heap.size shFlights (l ++ [(y1, data, ld, now, 1, ())]) [.slice va4 (n + 1) vc4]) := ho4; have HB4 : Hid (Below w.heap.size w w4) := HB3.out.trans (hb4.mono (by omega)); replace q1 := boxB q1 hb4 (by omega); replace g1 := boxF g1 hb4 (by omega); replace q2 : ∀ o, w4.cell? ⟨oB, o, none⟩ = (#[.int .i64 y0, .int .i64 y1, .int .i64 y2, .slice ca n cc] : Array Value)[o]? := (fun o => cell_of_heap hq4.out o); have pf2 : ∀ o, w4.frozen? ⟨oB, o, none⟩ = false := (fun o => (by simp [World.frozen?, hq4.out])); have z4 : oB < w4.heap.size := (by omega); clear ho4 hb4 hk4)
      | (go_simp; go_at_call 21; refine (HCB.out _ HBW.out.drew).mono ?_; rintro e w3 ⟨b3, c3, rfl, ho3, hb3⟩; have hbb : Below W.heap.size W w3 := (Below.drew (Below.refl _ _)).trans hb3; have z3 : W.heap.size ≤ w3.heap.size := hbb.size; have O3 : Hid (Own w3 W.heap.size w3.heap.size u8s ld [.slice b3 m c3]) := own_bytes ho3 (Nat.le_refl _); have HO3 : Hid (Own w3 lo oB shFlights l [.slice ca n cc]) := HOW.out.below (by omega) hbb; have z5 : w.heap.size < w3.heap.size := (by omega); have z6 : oB < w3.heap.size := (by omega); have HE3 : Hid (Own w3 W.heap.size w3.heap.size shFlight (y1, data, ld, now, 1, ()) [.int .i64 y1, .int .i64 data, .slice b3 m c3, .int .i64 now, .int .i64 1]) := hOwnCons (hOwnInt w3 _ W.heap.size HWF1.out) (hOwnCons (hOwnInt w3 _ W.heap.size WD.out) (hOwnCons O3.out (hOwnCons (hOwnInt w3 _ w3.heap.size WN.out) (hOwnCons (hOwnInt w3 _ w3.heap.size HWF9.out) (hOwnNil _ _ _) (Nat.le_refl _) (Nat.le_refl _)) (Nat.le_refl _) (Nat.le_refl _)) (by omega) (Nat.le_refl _)) (Nat.le_refl _) (by omega)) (Nat.le_refl _) (by omega); replace q0 := boxB q0 hbb (by omega); replace q1 := boxB q1 hbb (by omega); replace g1 := boxF g1 hbb (by omega); replace q2 := boxB q2 hbb (by omega); have hq3 : Hid _ := (hbb.block oB (by omega)).trans hq2.out; have HB3 : Hid (Below w.heap.size w w3) := HBW.out.trans (hbb.mono (by omega)); clear ho3 hb3 hbb O3)))
    all_goals (
      obtain ⟨X, hX⟩ : ∃ X, X = w4.setCell ⟨oB, 3, none⟩ (.slice va4 (n + 1) vc4) := ⟨_, rfl⟩
      rw [← hX]
      have p2 : ∀ o, X.cell? ⟨oB, o, none⟩ = (#[.int .i64 y0, .int .i64 y1, .int .i64 y2, .slice va4 (n + 1) vc4] : Array Value)[o]? := by rw [hX]; exact box_set3 q2
      have pg2 : ∀ o, X.frozen? ⟨oB, o, none⟩ = false := fun o => by rw [hX, World.frozen?_setCell]; exact pf2 o
      have p1 : ∀ o, X.cell? ⟨w.heap.size + 1, o, none⟩ = (#[.int .i64 0, .int .i64 0, .int .i64 0, .int .i64 0, .slice none 0 0] : Array Value)[o]? := by rw [hX]; exact box_off q1 (by omega)
      have pg1 : ∀ o, X.frozen? ⟨w.heap.size + 1, o, none⟩ = false := fun o => by rw [hX, World.frozen?_setCell]; exact g1 o
      have HBX : Hid (Below w.heap.size w X) := by rw [hX]; exact HB4.out.setCell (by simp; omega) _
      have hXz : X.heap.size = w4.heap.size := by rw [hX]; simp
      have HOX : Hid (Own X lo X.heap.size shFlights (l ++ [(y1, data, ld, now, 1, ())]) [.slice va4 (n + 1) vc4]) := by rw [hXz, hX]; exact Own.off HO4.out hq4.out (by decide) (fun b h1 h2 h3 => Below.heap_setCell _ _ _ _ (by dsimp only; omega))
      have HQX : Hid (∃ cur, X.heap[oB]? = some (.cells cur 26 (0, 0))) := by rw [hX]; exact ⟨_, heap_set hq4.out⟩
      have HWF2 : Hid ((Lit.int .i64 (y1 + (m : Int))).wf = true) := WalkArith.wf_i64 (by omega)
      have z7 : oB < X.heap.size := by omega
      clear hX q1 q2 g1 pf2 HO4 HB4 hq4
      go_wp2_with fail
      refine bodyPost_ret (v := .agg #[.int .i64 0, .int .i64 y0, .int .i64 (y1 + m), .int .i64 y2, .slice va4 (n + 1) vc4]) (by simp [results, Try.results6, go_sem, p1]) rfl ⟨_, rfl, ?_, ?_⟩
      · obtain ⟨cur, hcur⟩ := HQX.out
        refine Own.mono (lo := lo) (hi := X.heap.size) (hOwnCons (hOwnInt _ _ lo W0.out) (hOwnCons (hOwnInt _ _ lo HWF2.out) (hOwnCons (hOwnInt _ _ lo W2.out) (hOwnCons (Own.off HOX.out hcur (by decide) (fun b h1 h2 h3 => ?_)) (hOwnNil _ _ _) (by omega) (Nat.le_refl _)) (Nat.le_refl _) (by omega)) (Nat.le_refl _) (by omega)) (Nat.le_refl _) (by omega)) (by omega) (by simp)
        repeat rw [Below.heap_setCell _ _ _ _ (by dsimp only; omega)]
      · have hB1 := HBX.out
        clear p2 pg2 p1 pg1 HOX HBX HQX
        go_grown)
  · have e2 : pshV x data ld now = zSnd := by unfold pshV; rw [if_neg hF]
    have hF' : (F != 0) = true := by rw [hFx]; simp [hF]
    rw [← hFx, e2]
    clear hr rk hT wf1 HCP HCB hF hFx e2
    generalize x.1 = y0 at *
    generalize x.2.1 = y1 at *
    generalize x.2.2.1 = y2 at *
    generalize x.2.2.2.1.length = n at *
    generalize ld.length = m at *
    go_enter Try.func6, Try.ntmps6
    go_wp2_with fail
    refine (HC.out _ (by go_grown)).mono ?_
    rintro e w1 ⟨rfl, hb⟩
    have k1 := boxB (w := _) (fun o => (by simp [go_sem] : _ = (#[.int .i64 0, .int .i64 0, .int .i64 0, .int .i64 0, .slice none 0 0] : Array Value)[o]?)) hb (b := w.heap.size + 1) (by simp)
    have f1 : ∀ o, w1.frozen? ⟨w.heap.size + 1, o, none⟩ = false := boxF (w := _) (fun o => by simp [go_sem]) hb (by simp)
    have k0 := boxB (w := _) (fun o => (by simp [go_sem] : _ = (#[.int .i64 y0, .int .i64 y1, .int .i64 y2, .slice a n cap] : Array Value)[o]?)) hb (b := w.heap.size) (by simp; omega)
    have z1 : w.heap.size + 1 < w1.heap.size := by have := hb.size; simp at this; omega
    have HB : Hid (Below w.heap.size w w1) := Below.trans (by go_grown) (hb.mono (by simp; omega))
    clear hb HC
    go_wp2_with fail
    refine bodyPost_ret (v := .agg #[.int .i64 F, .int .i64 0, .int .i64 0, .int .i64 0, .slice none 0 0]) (by simp [results, Try.results6, go_sem, k1]) rfl ⟨_, rfl, own_snd0 _ _ _ (by simp; omega) (WalkArith.wf_i64 (by omega)) (WalkArith.wf_i64 (by omega)) (WalkArith.wf_i64 (by omega)), ?_⟩
    have hB1 := HB.out
    clear k1 f1 k0 HB
    go_grown
end Go.Proofs.Yteaddhldleeaiaa
